package tests

import (
	"math"
	"slices"
	"strings"
	"testing"

	"loop.example/g01177/impl"
)

// The tests of promise 2: chapter 2, correlations.

// turned returns z times i^k, counted without products.
func turned(z gauss, k int) gauss {
	for range (k%4 + 4) % 4 {
		z = g(-z.Im, z.Re)
	}
	return z
}

func plus(a gauss, b gauss) gauss {
	return g(a.Re+b.Re, a.Im+b.Im)
}

func conjugate(z gauss) gauss {
	return g(z.Re, -z.Im)
}

func norm(z gauss) int {
	return z.Re*z.Re + z.Im*z.Im
}

// aperiodicSum sums by the differences of phases, over all pairs of indices that are u apart.
func aperiodicSum(a []int, b []int, u int) gauss {
	var sum gauss
	for i := range a {
		for j := range b {
			if i == j+u {
				sum = plus(sum, turned(g(1, 0), a[i]-b[j]))
			}
		}
	}
	return sum
}

// periodicSum is the same for indices that are u apart modulo the length.
func periodicSum(a []int, b []int, u int) gauss {
	var sum gauss
	for i := range a {
		for j := range b {
			if (i-j-u)%len(a) == 0 {
				sum = plus(sum, turned(g(1, 0), a[i]-b[j]))
			}
		}
	}
	return sum
}

// sideNorms returns the norms of the own aperiodic correlations at 1..n - 1.
func sideNorms(s []int) []int {
	var all []int
	for u := 1; u < len(s); u++ {
		all = append(all, norm(aperiodicSum(s, s, u)))
	}
	return all
}

func total(numbers []int) int {
	sum := 0
	for _, n := range numbers {
		sum += n
	}
	return sum
}

// somePairs returns pairs of sequences of the same length, short and long ones.
func somePairs() [][2][]int {
	var all [][2][]int
	short := allSequences(3)
	for _, a := range short {
		for _, b := range short {
			if len(a) == len(b) {
				all = append(all, [2][]int{a, b})
			}
		}
	}
	for _, s := range someSequences() {
		b := make([]int, len(s))
		for i := range b {
			b[i] = (i*i + i/2 + s[len(s)-1-i]) % 4
		}
		all = append(all, [2][]int{s, b}, [2][]int{b, s}, [2][]int{s, s}, [2][]int{s, repeated(1, len(s))})
	}
	return all
}

// notPairs returns pairs of lists that are not two sequences of the same length.
func notPairs() [][2][]int {
	all := [][2][]int{
		{nil, {0}}, {{0}, nil}, {{0, 1}, {0}}, {{0}, {0, 1}}, {rising(31), rising(32)}, {rising(32), rising(31)},
		{rising(32), rising(33)}, {rising(33), rising(32)}, {rising(33), rising(33)},
	}
	for _, bad := range notSequences() {
		fine := rising(min(len(bad), impl.MaxLength))
		all = append(all, [2][]int{bad, bad}, [2][]int{bad, fine}, [2][]int{fine, bad}, [2][]int{bad, nil}, [2][]int{nil, bad})
	}
	return all
}

// notShifts returns numbers that are no shifts for a length n.
func notShifts(n int) []int {
	return []int{n + 1, -n - 1, n + 2, 2*n + 1, -2*n - 2, 1000, -1000, 1 << 32, -1 << 32, math.MaxInt, math.MinInt, math.MinInt + 1}
}

func TestAperiodicAt(t *testing.T) {
	for _, c := range []struct {
		a, b string
		u    int
		want gauss
		fine bool
	}{
		{"++-", "++-", 0, g(3, 0), true},
		{"++-", "++-", 1, g(0, 0), true},
		{"++-", "++-", 2, g(-1, 0), true},
		{"++-", "++-", -2, g(-1, 0), true},
		{"++-", "++-", 3, g(0, 0), true},
		{"++-", "++-", -3, g(0, 0), true},
		{"++-", "++-", 4, gauss{}, false},
		{"++-", "++-", -4, gauss{}, false},
		{"+i", "++", -1, g(1, 0), true},
		{"+i", "++", 0, g(1, 1), true},
		{"+i", "++", 1, g(0, 1), true},
		{"++", "+i", -1, g(0, -1), true},
		{"++", "+i", 0, g(1, -1), true},
		{"++", "+i", 1, g(1, 0), true},
		{"+ij", "-i+", 1, g(-1, -1), true},
		{"+ij", "-i+", -1, g(0, 0), true},
		{"+ij", "-i+", 2, g(0, 1), true},
		{"", "", 0, g(0, 0), true},
		{"", "", 1, gauss{}, false},
		{"", "", -1, gauss{}, false},
		{"i", "+", 0, g(0, 1), true},
		{"+", "i", 0, g(0, -1), true},
		{"i", "+", 1, g(0, 0), true},
		{"i", "+", -1, g(0, 0), true},
		{"i", "+", 2, gauss{}, false},
		{"+", "++", 0, gauss{}, false},
		{"++", "+", 0, gauss{}, false},
		{"", "+", 0, gauss{}, false},
	} {
		got, ok := impl.AperiodicAt(seq(c.a), seq(c.b), c.u)
		wantOne(t, called("AperiodicAt", c.a, c.b, c.u), got, ok, c.want, c.fine)
	}
}

func TestPeriodicAt(t *testing.T) {
	for _, c := range []struct {
		a, b string
		u    int
		want gauss
		fine bool
	}{
		{"++-", "++-", 0, g(3, 0), true},
		{"++-", "++-", 1, g(-1, 0), true},
		{"++-", "++-", 2, g(-1, 0), true},
		{"++-", "++-", 3, g(3, 0), true},
		{"++-", "++-", -1, g(-1, 0), true},
		{"++-", "++-", -3, g(3, 0), true},
		{"++-", "++-", 4, gauss{}, false},
		{"++-", "++-", -4, gauss{}, false},
		{"+i-", "+++", -1, g(0, 1), true},
		{"+i-", "+i+", 1, g(1, 2), true},
		{"+i-", "+i+", -1, g(-1, 0), true},
		{"+i-", "+i+", -2, g(1, 2), true},
		{"+i-", "+i+", 0, g(1, 0), true},
		{"+i", "+i", 1, g(0, 0), true},
		{"i", "+", 0, g(0, 1), true},
		{"i", "+", 1, g(0, 1), true},
		{"i", "+", -1, g(0, 1), true},
		{"i", "+", 2, gauss{}, false},
		{"", "", 0, gauss{}, false},
		{"", "", 1, gauss{}, false},
		{"+", "++", 0, gauss{}, false},
		{"++", "+", 0, gauss{}, false},
		{"", "+", 0, gauss{}, false},
	} {
		got, ok := impl.PeriodicAt(seq(c.a), seq(c.b), c.u)
		wantOne(t, called("PeriodicAt", c.a, c.b, c.u), got, ok, c.want, c.fine)
	}
}

func TestCorrelationsAreSums(t *testing.T) {
	for _, pair := range somePairs() {
		a, b := pair[0], pair[1]
		n := len(a)
		for u := -n; u <= n; u++ {
			got, ok := impl.AperiodicAt(a, b, u)
			wantOne(t, called("AperiodicAt", a, b, u), got, ok, aperiodicSum(a, b, u), true)
			got, ok = impl.PeriodicAt(a, b, u)
			wantOne(t, called("PeriodicAt", a, b, u), got, ok, periodicSum(a, b, u), n > 0)
		}
		for _, u := range notShifts(n) {
			got, ok := impl.AperiodicAt(a, b, u)
			wantOne(t, called("AperiodicAt", a, b, u), got, ok, gauss{}, false)
			got, ok = impl.PeriodicAt(a, b, u)
			wantOne(t, called("PeriodicAt", a, b, u), got, ok, gauss{}, false)
		}
	}
}

func TestCorrelationsOfTheGreatestLength(t *testing.T) {
	all, other := repeated(1, impl.MaxLength), repeated(2, impl.MaxLength)
	for u := -impl.MaxLength; u <= impl.MaxLength; u++ {
		got, ok := impl.AperiodicAt(other, all, u)
		wantOne(t, called("AperiodicAt at", u), got, ok, g(0, impl.MaxLength-max(u, -u)), true)
		got, ok = impl.PeriodicAt(other, all, u)
		wantOne(t, called("PeriodicAt at", u), got, ok, g(0, impl.MaxLength), true)
	}
}

// TestPeriodicIsTwoAperiodic holds each periodic correlation against the two aperiodic ones of the parts that go round and do not.
func TestPeriodicIsTwoAperiodic(t *testing.T) {
	for _, pair := range somePairs() {
		a, b := pair[0], pair[1]
		n := len(a)
		if n == 0 {
			continue
		}
		for u := -n; u <= n; u++ {
			around := u - n
			if u < 0 {
				around = u + n
			}
			straight, first := impl.AperiodicAt(a, b, u)
			rest, second := impl.AperiodicAt(a, b, around)
			got, ok := impl.PeriodicAt(a, b, u)
			wantOne(t, called("PeriodicAt", a, b, u), got, ok && first && second, plus(straight, rest), true)
		}
	}
}

func TestOwnCorrelations(t *testing.T) {
	for _, c := range []struct {
		s    string
		want []gauss
	}{
		{"++-", []gauss{g(3, 0), g(0, 0), g(-1, 0)}},
		{"+++-", []gauss{g(4, 0), g(1, 0), g(0, 0), g(-1, 0)}},
		{"+i-", []gauss{g(3, 0), g(0, 2), g(-1, 0)}},
		{"", nil},
		{"j", []gauss{g(1, 0)}},
	} {
		got, ok := impl.OwnCorrelations(seq(c.s))
		wantList(t, called("OwnCorrelations", c.s), got, ok, c.want, true)
	}
}

func TestPeriodicCorrelations(t *testing.T) {
	for _, c := range []struct {
		s    string
		want []gauss
	}{
		{"++-", []gauss{g(3, 0), g(-1, 0), g(-1, 0)}},
		{"+++-", []gauss{g(4, 0), g(0, 0), g(0, 0), g(0, 0)}},
		{"+i-", []gauss{g(3, 0), g(-1, 2), g(-1, -2)}},
		{"+i", []gauss{g(2, 0), g(0, 0)}},
		{"", nil},
		{"j", []gauss{g(1, 0)}},
	} {
		got, ok := impl.PeriodicCorrelations(seq(c.s))
		wantList(t, called("PeriodicCorrelations", c.s), got, ok, c.want, true)
	}
}

func TestCrossCorrelations(t *testing.T) {
	for _, c := range []struct {
		a, b string
		want []gauss
		fine bool
	}{
		{"+i", "++", []gauss{g(1, 0), g(1, 1), g(0, 1)}, true},
		{"++", "+i", []gauss{g(0, -1), g(1, -1), g(1, 0)}, true},
		{"i", "-", []gauss{g(0, -1)}, true},
		{"++-", "++-", []gauss{g(-1, 0), g(0, 0), g(3, 0), g(0, 0), g(-1, 0)}, true},
		{"", "", nil, false},
		{"", "+", nil, false},
		{"+", "", nil, false},
		{"++", "+++", nil, false},
		{"+++", "++", nil, false},
	} {
		got, ok := impl.CrossCorrelations(seq(c.a), seq(c.b))
		wantList(t, called("CrossCorrelations", c.a, c.b), got, ok, c.want, c.fine)
	}
}

// TestListsOfCorrelations holds each list against the correlations at its shifts.
func TestListsOfCorrelations(t *testing.T) {
	for _, s := range someSequences() {
		var own, round []gauss
		for u := range s {
			own = append(own, aperiodicSum(s, s, u))
			round = append(round, periodicSum(s, s, u))
		}
		got, ok := impl.OwnCorrelations(s)
		wantList(t, called("OwnCorrelations", s), got, ok, own, true)
		got, ok = impl.PeriodicCorrelations(s)
		wantList(t, called("PeriodicCorrelations", s), got, ok, round, true)
	}
	for _, pair := range somePairs() {
		a, b := pair[0], pair[1]
		var want []gauss
		for u := 1 - len(a); u < len(a); u++ {
			want = append(want, aperiodicSum(a, b, u))
		}
		got, ok := impl.CrossCorrelations(a, b)
		wantList(t, called("CrossCorrelations", a, b), got, ok, want, len(a) > 0)
	}
}

func TestSideEnergyMeritAndPeak(t *testing.T) {
	barker13 := "+++++--++-+-+"
	for _, c := range []struct {
		s      string
		energy int
		peak   int
		merit  impl.Ratio
	}{
		{"", 0, 0, impl.Ratio{}},
		{"i", 0, 0, impl.Ratio{}},
		{"+i", 1, 1, impl.Ratio{Num: 2, Den: 1}},
		{"++-", 1, 1, impl.Ratio{Num: 9, Den: 2}},
		{"+++", 5, 4, impl.Ratio{Num: 9, Den: 10}},
		{"+i-", 5, 4, impl.Ratio{Num: 9, Den: 10}},
		{"++i", 3, 2, impl.Ratio{Num: 3, Den: 2}},
		{"+++-", 2, 1, impl.Ratio{Num: 4, Den: 1}},
		{"++++", 14, 9, impl.Ratio{Num: 4, Den: 7}},
		{barker13, 6, 1, impl.Ratio{Num: 169, Den: 12}},
		{strings.Repeat("j", 32), 10416, 961, impl.Ratio{Num: 32, Den: 651}},
	} {
		energy, ok := impl.SideEnergy(seq(c.s))
		wantOne(t, called("SideEnergy", c.s), energy, ok, c.energy, true)
		peak, ok := impl.PeakSide(seq(c.s))
		wantOne(t, called("PeakSide", c.s), peak, ok, c.peak, true)
		merit, ok := impl.MeritOf(seq(c.s))
		wantOne(t, called("MeritOf", c.s), merit, ok, c.merit, c.energy > 0)
	}
}

// TestSidesAreOfCorrelations holds the sides of each sequence against its correlations, and its merit against its energy.
func TestSidesAreOfCorrelations(t *testing.T) {
	for _, s := range append(someSequences(), allSequences(6)...) {
		norms := sideNorms(s)
		energy, ok := impl.SideEnergy(s)
		wantOne(t, called("SideEnergy", s), energy, ok, total(norms), true)
		greatest := slices.Max(append([]int{0}, norms...))
		peak, ok := impl.PeakSide(s)
		wantOne(t, called("PeakSide", s), peak, ok, greatest, true)
		is, ok := impl.IsBarker(s)
		wantOne(t, called("IsBarker", s), is, ok, len(s) > 0 && greatest <= 1, true)
		merit, ok := impl.MeritOf(s)
		if total(norms) == 0 {
			wantOne(t, called("MeritOf", s), merit, ok, impl.Ratio{}, false)
			continue
		}
		if !ok || merit.Den < 1 || merit.Num*2*total(norms) != merit.Den*len(s)*len(s) || divisible(merit) {
			t.Error("MeritOf", s, "is", merit, ok)
		}
	}
}

// divisible tells whether a ratio could be shortened.
func divisible(r impl.Ratio) bool {
	for d := 2; d <= r.Num && d <= r.Den; d++ {
		if r.Num%d == 0 && r.Den%d == 0 {
			return true
		}
	}
	return false
}

func TestIsBarker(t *testing.T) {
	for _, c := range []struct {
		s    string
		want bool
	}{
		{"++-", true}, {"", false}, {"+", true}, {"j", true}, {"+i", true}, {"++", true}, {"+++", false}, {"++i", false},
		{"+++-", true}, {"+++-+", true}, {"+++--+-", true}, {"+++---+--+-", true}, {"+++++--++-+-+", true},
		{"++-+", true}, {"++--", false}, {strings.Repeat("+", 32), false},
	} {
		got, ok := impl.IsBarker(seq(c.s))
		wantOne(t, called("IsBarker", c.s), got, ok, c.want, true)
	}
}

func TestSearches(t *testing.T) {
	for _, c := range []struct {
		n, barkers int
		first      string
		least      int
	}{
		{1, 4, "+", 0}, {2, 16, "++", 1}, {3, 16, "++-", 1}, {4, 64, "+++-", 2}, {5, 16, "+++-+", 2}, {6, 0, "", 7},
	} {
		count, ok := impl.CountBarker(c.n)
		wantOne(t, called("CountBarker", c.n), count, ok, c.barkers, true)
		first, ok := impl.FirstBarker(c.n)
		wantList(t, called("FirstBarker", c.n), first, ok, seq(c.first), c.barkers > 0)
		least, ok := impl.LeastEnergy(c.n)
		wantOne(t, called("LeastEnergy", c.n), least, ok, c.least, true)
	}
	for _, n := range []int{0, 7, -1, -6, 8, 15, 16, 31, 32, 33, 64, 1 << 32, 1<<32 + 1, math.MaxInt, math.MinInt, math.MinInt + 1} {
		count, ok := impl.CountBarker(n)
		wantOne(t, called("CountBarker", n), count, ok, 0, false)
		first, ok := impl.FirstBarker(n)
		wantList(t, called("FirstBarker", n), first, ok, nil, false)
		least, ok := impl.LeastEnergy(n)
		wantOne(t, called("LeastEnergy", n), least, ok, 0, false)
	}
}

// TestSearchesAgree holds what the searches find against the sequences one by one.
func TestSearchesAgree(t *testing.T) {
	for n := 1; n <= 6; n++ {
		count, least, first := 0, math.MaxInt, []int(nil)
		for rank := range 1 << (2 * n) {
			s, _ := impl.SequenceWith(n, rank)
			is, fine := impl.IsBarker(s)
			energy, ok := impl.SideEnergy(s)
			if !fine || !ok {
				t.Fatal("IsBarker and SideEnergy should succeed for", s)
			}
			if is && count == 0 {
				first = s
			}
			if is {
				count++
			}
			least = min(least, energy)
		}
		got, ok := impl.CountBarker(n)
		wantOne(t, called("CountBarker", n), got, ok, count, true)
		found, ok := impl.FirstBarker(n)
		wantList(t, called("FirstBarker", n), found, ok, first, count > 0)
		got, ok = impl.LeastEnergy(n)
		wantOne(t, called("LeastEnergy", n), got, ok, least, true)
	}
}

func TestValueAtRoot(t *testing.T) {
	for _, c := range []struct {
		s    string
		k    int
		want gauss
		fine bool
	}{
		{"++-", 0, g(1, 0), true},
		{"++-", 1, g(2, 1), true},
		{"++-", 2, g(-1, 0), true},
		{"++-", 3, g(2, -1), true},
		{"+i-j", 0, g(0, 0), true},
		{"+i-j", 1, g(0, 0), true},
		{"+i-j", 2, g(0, 0), true},
		{"+i-j", 3, g(4, 0), true},
		{"", 0, g(0, 0), true},
		{"", 3, g(0, 0), true},
		{"", 4, gauss{}, false},
		{"", -1, gauss{}, false},
		{"i", 0, g(0, 1), true},
		{"i", 3, g(0, 1), true},
		{"++-", 4, gauss{}, false},
		{"++-", -1, gauss{}, false},
		{"++-", math.MaxInt, gauss{}, false},
		{"++-", math.MinInt, gauss{}, false},
		{strings.Repeat("+i-j", 8), 3, g(32, 0), true},
		{strings.Repeat("i", 32), 0, g(0, 32), true},
		{strings.Repeat("i", 32), 1, g(0, 0), true},
	} {
		got, ok := impl.ValueAtRoot(seq(c.s), c.k)
		wantOne(t, called("ValueAtRoot", c.s, c.k), got, ok, c.want, c.fine)
	}
}

func TestPowerAtRoots(t *testing.T) {
	for _, c := range []struct {
		s    string
		want []int
	}{
		{"++-", []int{1, 5, 1, 5}},
		{"+i-j", []int{0, 0, 0, 16}},
		{"", []int{0, 0, 0, 0}},
		{"j", []int{1, 1, 1, 1}},
		{"++i", []int{5, 1, 1, 5}},
		{strings.Repeat("j", 32), []int{1024, 0, 0, 0}},
	} {
		got, ok := impl.PowerAtRoots(seq(c.s))
		wantList(t, called("PowerAtRoots", c.s), got, ok, c.want, true)
	}
}

// TestPowersAreSumsOfCorrelations holds each value against its sum, and each power against the correlations at all shifts.
func TestPowersAreSumsOfCorrelations(t *testing.T) {
	for _, s := range someSequences() {
		n := len(s)
		powers, fine := impl.PowerAtRoots(s)
		if !fine || len(powers) != 4 {
			t.Fatal("PowerAtRoots", s, "is", powers, fine)
		}
		for k := range 4 {
			var want, sum gauss
			for i, p := range s {
				want = plus(want, turned(g(1, 0), p+k*i))
			}
			got, ok := impl.ValueAtRoot(s, k)
			wantOne(t, called("ValueAtRoot", s, k), got, ok, want, true)
			for u := 1 - n; u < n; u++ {
				c, ok := impl.AperiodicAt(s, s, u)
				if !ok {
					t.Fatal("AperiodicAt should succeed at", u, "for", s)
				}
				sum = plus(sum, turned(c, k*u))
			}
			wantOne(t, called("the sum of correlations", s, k), g(powers[k], 0), true, sum, true)
			wantOne(t, called("the power", s, k), powers[k], true, norm(want), true)
		}
	}
}

// TestCorrelationsFollowMoves holds the own correlations behind each move of chapter 1 against those ahead of it.
func TestCorrelationsFollowMoves(t *testing.T) {
	for _, s := range someSequences() {
		fine := must(t, called("a move", s))
		own, ok := impl.OwnCorrelations(s)
		round, ok2 := impl.PeriodicCorrelations(s)
		if !ok || !ok2 {
			t.Fatal("the correlations should be there:", s)
		}
		check := func(move string, moved []int, change func(z gauss, u int) gauss) {
			want := slices.Clone(own)
			for u := range want {
				want[u] = change(want[u], u)
			}
			got, ok := impl.OwnCorrelations(moved)
			wantList(t, called("OwnCorrelations behind "+move, s), got, ok, want, true)
		}
		for k := range 4 {
			check("TurnBy", fine(impl.TurnBy(s, k)), func(z gauss, u int) gauss { return z })
			check("ClimbBy", fine(impl.ClimbBy(s, k)), func(z gauss, u int) gauss { return turned(z, k*u) })
		}
		check("ConjugateOf", fine(impl.ConjugateOf(s)), func(z gauss, u int) gauss { return conjugate(z) })
		check("BackwardsOf", fine(impl.BackwardsOf(s)), func(z gauss, u int) gauss { return conjugate(z) })
		for _, k := range []int{1, 2, 5, -3, 1000} {
			got, ok := impl.PeriodicCorrelations(fine(impl.ShiftBy(s, k)))
			wantList(t, called("PeriodicCorrelations behind ShiftBy", s, k), got, ok, round, true)
		}
	}
}

// TestCrossCorrelationsFollowMoves checks what exchanging two sequences and turning or shifting one of them does.
func TestCrossCorrelationsFollowMoves(t *testing.T) {
	for _, pair := range somePairs() {
		a, b := pair[0], pair[1]
		n := len(a)
		fine := must(t, called("a move", a, b))
		for u := -n; u <= n; u++ {
			z, ok := impl.AperiodicAt(a, b, u)
			back, ok2 := impl.AperiodicAt(b, a, -u)
			wantOne(t, called("AperiodicAt exchanged", a, b, u), back, ok && ok2, conjugate(z), true)
			for k := range 4 {
				got, ok := impl.AperiodicAt(fine(impl.TurnBy(a, k)), b, u)
				wantOne(t, called("AperiodicAt behind TurnBy", a, b, u, k), got, ok, turned(z, k), true)
				got, ok = impl.AperiodicAt(a, fine(impl.TurnBy(b, k)), u)
				wantOne(t, called("AperiodicAt behind TurnBy of b", a, b, u, k), got, ok, turned(z, -k), true)
			}
			z, ok = impl.PeriodicAt(a, b, u)
			back, ok2 = impl.PeriodicAt(b, a, -u)
			wantOne(t, called("PeriodicAt exchanged", a, b, u), back, ok && ok2, conjugate(z), n > 0)
			got, ok := impl.PeriodicAt(fine(impl.ShiftBy(a, u)), b, 0)
			wantOne(t, called("PeriodicAt behind ShiftBy", a, b, u), got, ok, z, n > 0)
		}
	}
}

// TestOneListAsBoth gives the same memory as both sequences, and parts of it that overlap.
func TestOneListAsBoth(t *testing.T) {
	memory := seq("+i-j++-ij+")
	before := slices.Clone(memory)
	for n := 1; n <= 6; n++ {
		for from := range 4 {
			a, b := memory[:n], memory[from:from+n]
			for u := -n; u <= n; u++ {
				got, ok := impl.AperiodicAt(a, b, u)
				wantOne(t, called("AperiodicAt", a, b, u), got, ok, aperiodicSum(a, b, u), true)
				got, ok = impl.PeriodicAt(a, b, u)
				wantOne(t, called("PeriodicAt", a, b, u), got, ok, periodicSum(a, b, u), true)
			}
			got, ok := impl.CrossCorrelations(a, b)
			wantOne(t, called("CrossCorrelations", a, b), len(got), ok, 2*n-1, true)
		}
	}
	wantList(t, "the memory of both", memory, true, before, true)
}

// TestNoPairsToCorrelate gives each function of two sequences lists that are none, or of different lengths.
func TestNoPairsToCorrelate(t *testing.T) {
	for _, pair := range notPairs() {
		for _, u := range []int{0, 1, -1, len(pair[0]), -len(pair[0]), math.MaxInt, math.MinInt} {
			got, ok := impl.AperiodicAt(pair[0], pair[1], u)
			wantOne(t, called("AperiodicAt", pair, u), got, ok, gauss{}, false)
			got, ok = impl.PeriodicAt(pair[0], pair[1], u)
			wantOne(t, called("PeriodicAt", pair, u), got, ok, gauss{}, false)
		}
		list, ok := impl.CrossCorrelations(pair[0], pair[1])
		wantList(t, called("CrossCorrelations", pair), list, ok, nil, false)
	}
}

// TestNoSequencesToCorrelate gives each function of one sequence lists that are none.
func TestNoSequencesToCorrelate(t *testing.T) {
	for _, bad := range notSequences() {
		list, ok := impl.OwnCorrelations(bad)
		wantList(t, called("OwnCorrelations", bad), list, ok, nil, false)
		list, ok = impl.PeriodicCorrelations(bad)
		wantList(t, called("PeriodicCorrelations", bad), list, ok, nil, false)
		energy, ok := impl.SideEnergy(bad)
		wantOne(t, called("SideEnergy", bad), energy, ok, 0, false)
		merit, ok := impl.MeritOf(bad)
		wantOne(t, called("MeritOf", bad), merit, ok, impl.Ratio{}, false)
		peak, ok := impl.PeakSide(bad)
		wantOne(t, called("PeakSide", bad), peak, ok, 0, false)
		is, ok := impl.IsBarker(bad)
		wantOne(t, called("IsBarker", bad), is, ok, false, false)
		powers, ok := impl.PowerAtRoots(bad)
		wantList(t, called("PowerAtRoots", bad), powers, ok, nil, false)
		for _, k := range []int{0, 3, 4, -1} {
			value, ok := impl.ValueAtRoot(bad, k)
			wantOne(t, called("ValueAtRoot", bad, k), value, ok, gauss{}, false)
		}
	}
}
