package tests

import (
	"math"
	"slices"
	"strings"
	"testing"

	"loop.example/g01177/impl"
)

// The tests of promise 1: chapter 1, phases and Gaussian numbers.

const most = impl.MaxPart

type gauss = impl.Gauss

func g(re int, im int) gauss {
	return gauss{Re: re, Im: im}
}

// notGauss has numbers with a part just or far over the limit.
func notGauss() []gauss {
	return []gauss{
		{Re: most + 1}, {Re: -most - 1}, {Im: most + 1}, {Im: -most - 1},
		{Re: math.MaxInt, Im: 1}, {Re: math.MinInt}, {Re: 1, Im: math.MaxInt}, {Im: math.MinInt},
		{Re: math.MinInt, Im: math.MinInt}, {Re: math.MaxInt, Im: math.MaxInt},
	}
}

// edgeGauss has numbers with parts of exactly the limit, and small ones.
func edgeGauss() []gauss {
	var all []gauss
	for _, re := range []int{-most, -1000, -1, 0, 1, 3, 1000, most} {
		for _, im := range []int{-most, -1000, -2, 0, 1, 1000, most} {
			all = append(all, gauss{Re: re, Im: im})
		}
	}
	return all
}

// notSequences has lists that are no sequences.
func notSequences() [][]int {
	return [][]int{
		{4}, {-1}, {0, 1, 4}, {-1, 0}, {math.MaxInt}, {0, math.MinInt},
		repeated(0, impl.MaxLength+1), rising(1000), append(repeated(3, impl.MaxLength-1), 4),
	}
}

func TestLimitsOfPhases(t *testing.T) {
	if impl.MaxLength != 32 || impl.MaxPart != 1000000 {
		t.Error("the limits are", impl.MaxLength, impl.MaxPart)
	}
}

func TestIsGauss(t *testing.T) {
	for _, z := range edgeGauss() {
		if !impl.IsGauss(z) {
			t.Errorf("%+v should be a Gaussian number", z)
		}
	}
	for _, z := range notGauss() {
		if impl.IsGauss(z) {
			t.Errorf("%+v should be no Gaussian number", z)
		}
	}
}

func TestPlusGauss(t *testing.T) {
	for _, c := range []struct {
		a, b, want gauss
		fine       bool
	}{
		{g(3, -2), g(-5, 7), g(-2, 5), true},
		{g(0, 0), g(0, 0), g(0, 0), true},
		{g(most-1, 1-most), g(1, -1), g(most, -most), true},
		{g(most, -most), g(-most, most), g(0, 0), true},
		{g(most, 0), g(1, 0), gauss{}, false},
		{g(-most, 0), g(-1, 0), gauss{}, false},
		{g(0, most), g(0, 1), gauss{}, false},
		{g(5, -most), g(5, -1), gauss{}, false},
		{g(most+1, 0), g(-1, 0), gauss{}, false},
		{g(0, -1), g(0, most+1), gauss{}, false},
		{g(math.MaxInt, 0), g(math.MinInt, 0), gauss{}, false},
	} {
		got, ok := impl.PlusGauss(c.a, c.b)
		wantOne(t, called("PlusGauss", c.a, c.b), got, ok, c.want, c.fine)
	}
}

func TestTimesGauss(t *testing.T) {
	for _, c := range []struct {
		a, b, want gauss
		fine       bool
	}{
		{g(3, -2), g(1, 4), g(11, 10), true},
		{g(0, 1), g(0, 1), g(-1, 0), true},
		{g(most, -most), g(0, 1), g(most, most), true},
		{g(most, most), g(0, 0), g(0, 0), true},
		{g(1000, 0), g(1000, 0), g(most, 0), true},
		{g(0, 1000), g(1000, 0), g(0, most), true},
		{g(0, 1000), g(0, 1000), g(-most, 0), true},
		{g(999, 998), g(-997, 996), gauss{}, false},
		{g(999, 7), g(-997, 6), g(-999*997-42, 999*6-7*997), true},
		{g(1000, 1), g(1000, -1), gauss{}, false},
		{g(1000, 1), g(-1000, 1), gauss{}, false},
		{g(1, 1000), g(-1, 1000), gauss{}, false},
		{g(500001, 0), g(0, 2), gauss{}, false},
		{g(500001, 0), g(0, -2), gauss{}, false},
		{g(most, most), g(1, 1), gauss{}, false},
		{g(most, most), g(most, most), gauss{}, false},
		{g(most+1, 0), g(0, 0), gauss{}, false},
		{g(0, 0), g(0, -most-1), gauss{}, false},
		{g(1<<32, 0), g(1<<32, 0), gauss{}, false},
		{g(math.MinInt, math.MinInt), g(2, 2), gauss{}, false},
	} {
		got, ok := impl.TimesGauss(c.a, c.b)
		wantOne(t, called("TimesGauss", c.a, c.b), got, ok, c.want, c.fine)
	}
}

func TestConjugateGauss(t *testing.T) {
	got, ok := impl.ConjugateGauss(g(3, -2))
	wantOne(t, "ConjugateGauss(3-2i)", got, ok, g(3, 2), true)
	for _, z := range edgeGauss() {
		got, ok := impl.ConjugateGauss(z)
		wantOne(t, called("ConjugateGauss", z), got, ok, g(z.Re, -z.Im), true)
	}
	for _, z := range notGauss() {
		got, ok := impl.ConjugateGauss(z)
		wantOne(t, called("ConjugateGauss", z), got, ok, gauss{}, false)
	}
}

func TestNormOf(t *testing.T) {
	for _, c := range []struct {
		z    gauss
		want int
	}{
		{g(2, 1), 5}, {g(3, -2), 13}, {g(0, 0), 0}, {g(-1, 0), 1},
		{g(most, -most), 2000000000000}, {g(-most, most-1), 1999998000001},
	} {
		got, ok := impl.NormOf(c.z)
		wantOne(t, called("NormOf", c.z), got, ok, c.want, true)
	}
	for _, z := range notGauss() {
		got, ok := impl.NormOf(z)
		wantOne(t, called("NormOf", z), got, ok, 0, false)
	}
}

func TestPhaseValue(t *testing.T) {
	for k, want := range []gauss{g(1, 0), g(0, 1), g(-1, 0), g(0, -1)} {
		got, ok := impl.PhaseValue(k)
		wantOne(t, called("PhaseValue", k), got, ok, want, true)
	}
	for _, k := range []int{-1, 4, -4, math.MinInt, math.MaxInt} {
		got, ok := impl.PhaseValue(k)
		wantOne(t, called("PhaseValue", k), got, ok, gauss{}, false)
	}
}

func TestIsSequence(t *testing.T) {
	if !impl.IsSequence(nil) {
		t.Error("the empty list should be a sequence")
	}
	for _, s := range someSequences() {
		if !impl.IsSequence(s) {
			t.Error("should be a sequence:", s)
		}
	}
	for _, s := range notSequences() {
		if impl.IsSequence(s) {
			t.Error("should be no sequence:", s)
		}
	}
}

func TestTurnBy(t *testing.T) {
	for _, c := range []struct {
		s    []int
		k    int
		want string
		fine bool
	}{
		{seq("+i-j"), 1, "i-j+", true},
		{seq("++i"), 0, "++i", true},
		{seq("++i"), 2, "--j", true},
		{seq("+i-j"), -1, "j+i-", true},
		{seq("+i-j"), 1000, "+i-j", true},
		{seq("+i-j"), -1000, "+i-j", true},
		{seq("+i-j"), 999, "j+i-", true},
		{seq("+i-j"), -999, "i-j+", true},
		{seq("+i-j"), 1001, "", false},
		{seq("+i-j"), -1001, "", false},
		{seq("+i-j"), math.MaxInt, "", false},
		{seq("+i-j"), math.MinInt, "", false},
		{nil, 1000, "", true},
		{nil, 1001, "", false},
		{repeated(3, 32), 1, strings.Repeat("+", 32), true},
	} {
		got, ok := impl.TurnBy(c.s, c.k)
		wantList(t, called("TurnBy", c.s, c.k), got, ok, seq(c.want), c.fine)
	}
}

func TestConjugateOf(t *testing.T) {
	for _, c := range [][2]string{
		{"+i-j", "+j-i"}, {"", ""}, {"i", "j"}, {"++i", "++j"}, {"--", "--"},
		{strings.Repeat("ji", 16), strings.Repeat("ij", 16)},
	} {
		got, ok := impl.ConjugateOf(seq(c[0]))
		wantList(t, called("ConjugateOf", c[0]), got, ok, seq(c[1]), true)
	}
}

func TestBackwardsOf(t *testing.T) {
	for _, c := range [][2]string{
		{"+i-j", "j-i+"}, {"", ""}, {"i", "i"}, {"++i", "i++"},
		{"+" + strings.Repeat("i", 30) + "-", "-" + strings.Repeat("i", 30) + "+"},
	} {
		got, ok := impl.BackwardsOf(seq(c[0]))
		wantList(t, called("BackwardsOf", c[0]), got, ok, seq(c[1]), true)
	}
}

func TestShiftBy(t *testing.T) {
	for _, c := range []struct {
		s    []int
		k    int
		want string
		fine bool
	}{
		{seq("+i-j"), 1, "i-j+", true},
		{seq("+i-"), 0, "+i-", true},
		{seq("+i-"), 2, "-+i", true},
		{seq("+i-"), 3, "+i-", true},
		{seq("+i-"), 7, "i-+", true},
		{seq("+i-"), -1, "-+i", true},
		{seq("+i-"), -5, "i-+", true},
		{seq("+i-"), 1000, "i-+", true},
		{seq("+i-"), -1000, "-+i", true},
		{seq("+i-"), 1001, "", false},
		{seq("+i-"), -1001, "", false},
		{seq("+i-"), math.MaxInt, "", false},
		{seq("+i-"), math.MinInt, "", false},
		{nil, 0, "", true},
		{nil, 1000, "", true},
		{nil, -1000, "", true},
		{nil, 1001, "", false},
		{nil, -1001, "", false},
		{seq("j"), -17, "j", true},
		{seq("+" + strings.Repeat("i", 31)), 33, strings.Repeat("i", 31) + "+", true},
	} {
		got, ok := impl.ShiftBy(c.s, c.k)
		wantList(t, called("ShiftBy", c.s, c.k), got, ok, seq(c.want), c.fine)
	}
}

func TestClimbBy(t *testing.T) {
	for _, c := range []struct {
		s    []int
		k    int
		want string
		fine bool
	}{
		{seq("+++++"), 0, "+++++", true},
		{seq("+++++"), 1, "+i-j+", true},
		{seq("+++++"), 2, "+-+-+", true},
		{seq("+++++"), 3, "+j-i+", true},
		{seq("i-j"), 3, "iii", true},
		{seq("+i"), 4, "", false},
		{seq("+i"), -1, "", false},
		{seq("+i"), math.MaxInt, "", false},
		{seq("+i"), math.MinInt, "", false},
		{nil, 3, "", true},
		{nil, 4, "", false},
		{repeated(0, 32), 1, strings.Repeat("+i-j", 8), true},
	} {
		got, ok := impl.ClimbBy(c.s, c.k)
		wantList(t, called("ClimbBy", c.s, c.k), got, ok, seq(c.want), c.fine)
	}
}

func TestAlternateOf(t *testing.T) {
	for _, c := range [][2]string{
		{"+i-j", "+j-i"}, {"", ""}, {"i", "i"}, {"+++", "+-+"}, {"ii", "ij"},
		{strings.Repeat("+", 32), strings.Repeat("+-", 16)},
	} {
		got, ok := impl.AlternateOf(seq(c[0]))
		wantList(t, called("AlternateOf", c[0]), got, ok, seq(c[1]), true)
	}
}

func TestSumOf(t *testing.T) {
	for _, c := range []struct {
		s    string
		want gauss
	}{
		{"+i-j", g(0, 0)}, {"++i", g(2, 1)}, {"", g(0, 0)}, {"j", g(0, -1)}, {"--j", g(-2, -1)},
		{strings.Repeat("-", 32), g(-32, 0)}, {strings.Repeat("i", 32), g(0, 32)},
	} {
		got, ok := impl.SumOf(seq(c.s))
		wantOne(t, called("SumOf", c.s), got, ok, c.want, true)
	}
}

func TestJoinOf(t *testing.T) {
	for _, c := range []struct {
		a, b, want string
		fine       bool
	}{
		{"+i", "-j+", "+i-j+", true},
		{"", "", "", true},
		{"", "ij", "ij", true},
		{"ij", "", "ij", true},
		{strings.Repeat("i", 15), strings.Repeat("-", 17), strings.Repeat("i", 15) + strings.Repeat("-", 17), true},
		{strings.Repeat("i", 32), "", strings.Repeat("i", 32), true},
		{strings.Repeat("i", 32), "+", "", false},
		{"+", strings.Repeat("i", 32), "", false},
		{strings.Repeat("i", 16), strings.Repeat("i", 17), "", false},
		{strings.Repeat("i", 32), strings.Repeat("i", 32), "", false},
	} {
		got, ok := impl.JoinOf(seq(c.a), seq(c.b))
		wantList(t, called("JoinOf", c.a, c.b), got, ok, seq(c.want), c.fine)
	}
}

func TestInterleaveOf(t *testing.T) {
	for _, c := range []struct {
		a, b, want string
		fine       bool
	}{
		{"++i", "j--", "+j+-i-", true},
		{"", "", "", true},
		{"+", "i", "+i", true},
		{strings.Repeat("+", 16), strings.Repeat("j", 16), strings.Repeat("+j", 16), true},
		{strings.Repeat("+", 17), strings.Repeat("j", 17), "", false},
		{strings.Repeat("+", 32), strings.Repeat("j", 32), "", false},
		{"+", "", "", false},
		{"", "+", "", false},
		{"+i", "+i-", "", false},
		{"+i-", "+i", "", false},
	} {
		got, ok := impl.InterleaveOf(seq(c.a), seq(c.b))
		wantList(t, called("InterleaveOf", c.a, c.b), got, ok, seq(c.want), c.fine)
	}
}

func TestProductOf(t *testing.T) {
	for _, c := range []struct {
		a, b, want string
		fine       bool
	}{
		{"+i-j", "i-j+", "ijij", true},
		{"", "", "", true},
		{"jj", "+j", "j-", true},
		{strings.Repeat("i", 32), strings.Repeat("j", 32), strings.Repeat("+", 32), true},
		{"+", "", "", false},
		{"", "+", "", false},
		{"+i", "+i-", "", false},
		{"+i-", "+i", "", false},
	} {
		got, ok := impl.ProductOf(seq(c.a), seq(c.b))
		wantList(t, called("ProductOf", c.a, c.b), got, ok, seq(c.want), c.fine)
	}
}

func TestSequenceText(t *testing.T) {
	for _, c := range []struct {
		s    []int
		want string
	}{
		{[]int{0, 1, 2, 3}, "+i-j"}, {nil, "0"}, {[]int{}, "0"}, {[]int{0}, "+"}, {[]int{3, 3}, "jj"},
		{repeated(2, 32), strings.Repeat("-", 32)},
	} {
		got, ok := impl.SequenceText(c.s)
		wantOne(t, called("SequenceText", c.s), got, ok, c.want, true)
	}
}

func TestParseSequence(t *testing.T) {
	for _, c := range []struct {
		text string
		want []int
		fine bool
	}{
		{"+i-j", []int{0, 1, 2, 3}, true},
		{"0", nil, true},
		{"+", []int{0}, true},
		{strings.Repeat("j", 32), repeated(3, 32), true},
		{strings.Repeat("j", 33), nil, false},
		{strings.Repeat("j", 100000), nil, false},
		{"", nil, false},
		{"00", nil, false},
		{"+0", nil, false},
		{"0+", nil, false},
		{" +", nil, false},
		{"+ i", nil, false},
		{"+i\n", nil, false},
		{"I", nil, false},
		{"J", nil, false},
		{"1", nil, false},
		{"k", nil, false},
		{"+\x00", nil, false},
		{"\xff", nil, false},
		{"\u2212", nil, false},
	} {
		got, ok := impl.ParseSequence(c.text)
		wantList(t, called("ParseSequence", c.text), got, ok, c.want, c.fine)
	}
}

func TestParseSequenceByBytes(t *testing.T) {
	for b := range 256 {
		text := string([]byte{byte(b)})
		k := strings.Index("+i-j", text)
		got, ok := impl.ParseSequence(text)
		wantList(t, called("ParseSequence", []byte(text)), got, ok, []int{k}[:min(k+1, 1)], k >= 0 || text == "0")
	}
}

func TestSequenceWith(t *testing.T) {
	greatest := 1<<30 - 1
	for _, c := range []struct {
		n, rank int
		want    []int
		fine    bool
	}{
		{2, 4, seq("i+"), true},
		{4, 27, seq("+i-j"), true},
		{0, 0, nil, true},
		{1, 0, seq("+"), true},
		{1, 3, seq("j"), true},
		{15, 0, repeated(0, 15), true},
		{15, greatest, repeated(3, 15), true},
		{15, greatest - 1, append(repeated(3, 14), 2), true},
		{0, 1, nil, false},
		{1, 4, nil, false},
		{2, 16, nil, false},
		{15, greatest + 1, nil, false},
		{15, math.MaxInt, nil, false},
		{2, -1, nil, false},
		{0, -1, nil, false},
		{2, math.MinInt, nil, false},
		{16, 0, nil, false},
		{-1, 0, nil, false},
		{math.MaxInt, 0, nil, false},
		{math.MinInt, 0, nil, false},
	} {
		got, ok := impl.SequenceWith(c.n, c.rank)
		wantList(t, called("SequenceWith", c.n, c.rank), got, ok, c.want, c.fine)
	}
}

func TestRankOf(t *testing.T) {
	for _, c := range []struct {
		s    []int
		want int
		fine bool
	}{
		{seq("i+"), 4, true},
		{seq("+i-j"), 27, true},
		{nil, 0, true},
		{seq("j"), 3, true},
		{seq("+++"), 0, true},
		{repeated(3, 15), 1<<30 - 1, true},
		{repeated(0, 16), 0, false},
		{repeated(3, 16), 0, false},
		{repeated(0, 32), 0, false},
	} {
		got, ok := impl.RankOf(c.s)
		wantOne(t, called("RankOf", c.s), got, ok, c.want, c.fine)
	}
}

func TestGaussText(t *testing.T) {
	for _, c := range []struct {
		z    gauss
		want string
	}{
		{g(3, -2), "3-2i"}, {g(0, 0), "0+0i"}, {g(-5, 0), "-5+0i"}, {g(2, 1), "2+1i"}, {g(0, -1), "0-1i"},
		{g(most, -most), "1000000-1000000i"}, {g(-most, most), "-1000000+1000000i"},
	} {
		got, ok := impl.GaussText(c.z)
		wantOne(t, called("GaussText", c.z), got, ok, c.want, true)
	}
	for _, z := range notGauss() {
		got, ok := impl.GaussText(z)
		wantOne(t, called("GaussText", z), got, ok, "", false)
	}
}

// TestNoSequences gives each function lists that are no sequences, in each place.
func TestNoSequences(t *testing.T) {
	for _, bad := range notSequences() {
		single := map[string]func([]int) ([]int, bool){
			"TurnBy":      func(s []int) ([]int, bool) { return impl.TurnBy(s, 1) },
			"ShiftBy":     func(s []int) ([]int, bool) { return impl.ShiftBy(s, 1) },
			"ClimbBy":     func(s []int) ([]int, bool) { return impl.ClimbBy(s, 1) },
			"ConjugateOf": impl.ConjugateOf,
			"BackwardsOf": impl.BackwardsOf,
			"AlternateOf": impl.AlternateOf,
		}
		for name, f := range single {
			got, ok := f(bad)
			wantList(t, called(name, bad), got, ok, nil, false)
		}
		double := map[string]func([]int, []int) ([]int, bool){
			"JoinOf": impl.JoinOf, "InterleaveOf": impl.InterleaveOf, "ProductOf": impl.ProductOf,
		}
		for name, f := range double {
			for _, pair := range [][2][]int{{bad, bad}, {bad, nil}, {nil, bad}, {bad, repeated(0, len(bad)%33)}, {repeated(0, len(bad)%33), bad}} {
				got, ok := f(pair[0], pair[1])
				wantList(t, called(name, pair[0], pair[1]), got, ok, nil, false)
			}
		}
		sum, ok := impl.SumOf(bad)
		wantOne(t, called("SumOf", bad), sum, ok, gauss{}, false)
		text, ok := impl.SequenceText(bad)
		wantOne(t, called("SequenceText", bad), text, ok, "", false)
		rank, ok := impl.RankOf(bad)
		wantOne(t, called("RankOf", bad), rank, ok, 0, false)
	}
}

// must returns a list that a call is to return; the calls checked here have valid arguments.
func must(t *testing.T, call string) func([]int, bool) []int {
	return func(s []int, ok bool) []int {
		t.Helper()
		if !ok {
			t.Fatal(call, "should succeed")
		}
		return s
	}
}

func TestMovesAreUndone(t *testing.T) {
	for _, s := range someSequences() {
		fine := must(t, called("a move", s))
		for _, k := range []int{0, 1, 2, 3, 5, 31, 32, 33, 998, 1000} {
			wantList(t, called("TurnBy back", s, k), fine(impl.TurnBy(fine(impl.TurnBy(s, k)), -k)), true, s, true)
			wantList(t, called("ShiftBy back", s, k), fine(impl.ShiftBy(fine(impl.ShiftBy(s, k)), -k)), true, s, true)
		}
		for k := range 4 {
			wantList(t, called("ClimbBy back", s, k), fine(impl.ClimbBy(fine(impl.ClimbBy(s, k)), (4-k)%4)), true, s, true)
		}
		wantList(t, called("ConjugateOf twice", s), fine(impl.ConjugateOf(fine(impl.ConjugateOf(s)))), true, s, true)
		wantList(t, called("BackwardsOf twice", s), fine(impl.BackwardsOf(fine(impl.BackwardsOf(s)))), true, s, true)
		wantList(t, called("AlternateOf twice", s), fine(impl.AlternateOf(fine(impl.AlternateOf(s)))), true, s, true)
		wantList(t, called("AlternateOf", s), fine(impl.AlternateOf(s)), true, fine(impl.ClimbBy(s, 2)), true)
		wantList(t, called("ShiftBy its length", s), fine(impl.ShiftBy(s, len(s))), true, s, true)
		undone := fine(impl.ProductOf(s, fine(impl.ConjugateOf(s))))
		wantList(t, called("ProductOf it and ConjugateOf it", s), undone, true, repeated(0, len(s)), true)
	}
}

// TestValuesOfMoves holds each move against the products of values.
func TestValuesOfMoves(t *testing.T) {
	value := func(k int) gauss {
		z, ok := impl.PhaseValue(k)
		if !ok {
			t.Fatal("no phase:", k)
		}
		return z
	}
	for a := range 4 {
		conjugate, _ := impl.ConjugateGauss(value(a))
		s, _ := impl.ConjugateOf([]int{a})
		if len(s) != 1 || value(s[0]) != conjugate {
			t.Error("the conjugate of the phase", a, "is", s)
		}
		for b := range 4 {
			product, _ := impl.TimesGauss(value(a), value(b))
			s, _ := impl.ProductOf([]int{a}, []int{b})
			u, _ := impl.TurnBy([]int{a}, b)
			c, _ := impl.ClimbBy([]int{0, a}, b)
			if len(s) != 1 || len(u) != 1 || len(c) != 2 || value(s[0]) != product || value(u[0]) != product || value(c[1]) != product {
				t.Error("the phases", a, "and", b, "make", s, u, c)
			}
		}
	}
}

func TestSumsAreOfValues(t *testing.T) {
	for _, s := range someSequences() {
		want, ok := gauss{}, true
		for _, k := range s {
			z, _ := impl.PhaseValue(k)
			want, ok = impl.PlusGauss(want, z)
			if !ok {
				t.Fatal("the sum should be a Gaussian number:", s)
			}
		}
		got, ok := impl.SumOf(s)
		wantOne(t, called("SumOf", s), got, ok, want, true)
	}
}

func TestSequencesAreReadBack(t *testing.T) {
	seen := map[string]bool{}
	for _, s := range someSequences() {
		text, ok := impl.SequenceText(s)
		if !ok || text == "" || seen[text] && len(s) <= 4 {
			t.Error("the text of", s, "is", text)
		}
		seen[text] = true
		got, ok := impl.ParseSequence(text)
		wantList(t, called("ParseSequence", text), got, ok, s, true)
		rank, ok := impl.RankOf(s)
		if ok != (len(s) <= 15) {
			t.Error("RankOf", s, "tells", ok)
		}
		if ok {
			got, ok := impl.SequenceWith(len(s), rank)
			wantList(t, called("SequenceWith", len(s), rank), got, ok, s, true)
		}
	}
}

func TestRanksAreInOrder(t *testing.T) {
	for n := range 6 {
		var last []int
		for rank := range 1 << (2 * n) {
			s, ok := impl.SequenceWith(n, rank)
			if !ok || len(s) != n || rank > 0 && slices.Compare(last, s) >= 0 {
				t.Fatal("SequenceWith", n, rank, "is", s, ok)
			}
			back, ok := impl.RankOf(s)
			wantOne(t, called("RankOf", s), back, ok, rank, true)
			last = s
		}
	}
}

// TestGaussSumsAndProducts holds the calls against sums and products counted here.
func TestGaussSumsAndProducts(t *testing.T) {
	isIn := func(z gauss) bool { return max(z.Re, -z.Re, z.Im, -z.Im) <= most }
	for _, a := range edgeGauss() {
		for _, b := range edgeGauss() {
			sum := g(a.Re+b.Re, a.Im+b.Im)
			got, ok := impl.PlusGauss(a, b)
			wantOne(t, called("PlusGauss", a, b), got, ok, sum, isIn(sum))
			product := g(a.Re*b.Re-a.Im*b.Im, a.Re*b.Im+a.Im*b.Re)
			got, ok = impl.TimesGauss(a, b)
			wantOne(t, called("TimesGauss", a, b), got, ok, product, isIn(product))
		}
		for _, b := range notGauss() {
			for _, pair := range [][2]gauss{{a, b}, {b, a}} {
				got, ok := impl.PlusGauss(pair[0], pair[1])
				wantOne(t, called("PlusGauss", pair), got, ok, gauss{}, false)
				got, ok = impl.TimesGauss(pair[0], pair[1])
				wantOne(t, called("TimesGauss", pair), got, ok, gauss{}, false)
			}
		}
	}
}
