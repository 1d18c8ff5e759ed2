package tests

import (
	"math/bits"
	"runtime"
	"slices"
	"testing"
	"time"

	"loop.example/g01177/impl"
)

// The tests of promise 8: chapter 8, spread messages.

// longest is the greatest number of numbers of a signal.
const longest = 64

// disturbed returns the norm of the match of two codes, by how often each difference of their phases comes.
func disturbed(a []int, b []int) int {
	var counts [4]int
	for t := range a {
		counts[(a[t]-b[t]+4)%4]++
	}
	return norm(g(counts[0]-counts[2], counts[1]-counts[3]))
}

// areApart tells whether the codes with some indices are orthogonal.
func areApart(codes [][]int, indices []int) bool {
	for x, i := range indices {
		for _, j := range indices[:x] {
			if disturbed(codes[i], codes[j]) != 0 {
				return false
			}
		}
	}
	return true
}

// upTo returns 0, 1 and so on, n numbers.
func upTo(n int) []int {
	all := []int{}
	for i := range n {
		all = append(all, i)
	}
	return all
}

// matchSum sums numbers that are turned back by phases.
func matchSum(z []gauss, code []int) gauss {
	var sum gauss
	for t, k := range code {
		sum = plus(sum, turned(z[t], -k))
	}
	return sum
}

// matchSums returns the matches at all indices at which a code has room.
func matchSums(z []gauss, code []int) []gauss {
	var all []gauss
	for t := range z {
		if len(z)-t >= len(code) {
			all = append(all, matchSum(z[t:], code))
		}
	}
	return all
}

// firstPeak returns the first index with the greatest norm, or -1 for none.
func firstPeak(z []gauss) int {
	best := -1
	for t := len(z) - 1; t >= 0; t-- {
		if best < 0 || norm(z[t]) >= norm(z[best]) {
			best = t
		}
	}
	return best
}

// sent sums at each index what the codes make of data there.
func sent(codes [][]int, data []gauss) []gauss {
	z := make([]gauss, len(codes[0]))
	for i, code := range codes {
		for t, k := range code {
			z[t] = plus(z[t], turned(data[i], k))
		}
	}
	return z
}

// gathered divides all matches, or tells that one cannot be divided.
func gathered(codes [][]int, z []gauss) ([]gauss, bool) {
	var all []gauss
	for _, code := range codes {
		sum := matchSum(z, code)
		if sum.Re%len(z) != 0 || sum.Im%len(z) != 0 {
			return nil, false
		}
		all = append(all, g(sum.Re/len(z), sum.Im/len(z)))
	}
	return all, true
}

// delayed returns numbers that are 0 but where a code lies.
func delayed(code []int, x gauss, delay int, length int) []gauss {
	z := slices.Concat(make([]gauss, delay), valuesOf(code, x), make([]gauss, length))
	return z[:length]
}

// added sums at each index.
func added(a []gauss, b []gauss) []gauss {
	var all []gauss
	for t := range a {
		all = append(all, plus(a[t], b[t]))
	}
	return all
}

// firstGreatest looks at all sets of indices for the first one of the greatest ones that are orthogonal.
func firstGreatest(codes [][]int) []int {
	var greatest []int
	for set := range 1 << len(codes) {
		var indices []int
		for i := range codes {
			if set>>i&1 == 1 {
				indices = append(indices, i)
			}
		}
		isFirst := len(indices) > len(greatest) || len(indices) == len(greatest) && slices.Compare(indices, greatest) < 0
		if isFirst && areApart(codes, indices) {
			greatest = indices
		}
	}
	return greatest
}

// walshCodes returns n orthogonal codes of n phases, for a power of 2.
func walshCodes(n int) [][]int {
	return made(n, func(i int, j int) int { return 2 * bits.OnesCount(uint(i&j)) })
}

// turnedCodes turns the phases of all codes alike, and each code by other ones, so that orthogonal codes stay so.
func turnedCodes(codes [][]int, seed int) [][]int {
	turns := mixedArray(2, max(len(codes), len(codes[0])), seed)
	return madeArray(len(codes), len(codes[0]), func(i int, j int) int { return codes[i][j] + turns[0][i] + turns[1][j] })
}

// orthogonalCodes returns orthogonal codes, of all numbers of users, of each number of phases for which there are some.
func orthogonalCodes() [][][]int {
	var all [][][]int
	for n := 1; n <= impl.MaxLength; n++ {
		all = append(all, [][]int{rising(n)}, [][]int{mixedPhases(n, 1)}, [][]int{repeated(n%4, n)})
		if n%2 == 0 {
			halves := [][]int{repeated(0, n), append(repeated(0, n/2), repeated(2, n/2)...)}
			all = append(all, halves, turnedCodes(halves, n), turnedCodes(halves, n+1))
		}
	}
	for _, m := range someHadamards() {
		for users := 1; users <= len(m); users++ {
			all = append(all, m[:users], m[len(m)-users:])
		}
	}
	for _, n := range []int{16, 32} {
		for users := 1; users <= impl.MaxUsers; users++ {
			all = append(all, walshCodes(n)[:users], turnedCodes(walshCodes(n)[n-3*users/2:][:users], users))
		}
	}
	for _, m := range knownHadamards()[4:] {
		twice := productOfMatrices(rowsOf("++ +-"), m)
		all = append(all, twice[:min(len(twice), impl.MaxUsers)], turnedCodes(twice[len(m)/2:][:min(len(m), impl.MaxUsers)], len(m)))
	}
	for _, s := range knownPerfects() {
		all = append(all, madeArray(min(len(s), impl.MaxUsers), len(s), func(i int, j int) int { return s[(i+j)%len(s)] }))
	}
	return all
}

// someCodes returns codes of all numbers of users and of phases, of which some are orthogonal and most are not.
func someCodes() [][][]int {
	var all [][][]int
	for n := 1; n <= 3; n++ {
		for _, a := range sequencesOf(n) {
			all = append(all, [][]int{a})
			for _, b := range sequencesOf(n) {
				all = append(all, [][]int{a, b})
				if n < 3 {
					all = append(all, [][]int{a, b, b}, [][]int{b, a, turnedList(a, 1), mirrored(b)}, [][]int{b, b, a})
				}
			}
		}
	}
	for users := 1; users <= impl.MaxUsers; users++ {
		for n := 1; n <= impl.MaxLength; n++ {
			all = append(all, mixedArray(users, n, 0), mixedArray(users, n, 1), madeArray(users, n, func(i int, _ int) int { return i }))
		}
		for seed := range 20 {
			all = append(all, mixedArray(users, 4, seed), mixedArray(users, 2, seed))
			all = append(all, madeArray(users, 8, func(i int, j int) int { return walshCodes(8)[(i*i+seed*i+seed)%7][j] + i }))
		}
	}
	return slices.Concat(all, nearHadamards(), orthogonalCodes())
}

// notCodes returns lists that are no codes: none or too many, with other phases in each place, and of no, too great or different lengths.
func notCodes() [][][]int {
	all := [][][]int{
		nil, {}, {nil}, {{}}, {nil, nil}, {{}, {}}, {{0}, nil}, {nil, {0}}, {{0}, {}}, {{}, {0}}, {{0, 0}, {0}}, {{0}, {0, 0}}, {{0, 0}, {0, 0}, {0}}, {{0}, {0}, {0, 0}},
		mixedArray(9, 1, 0), mixedArray(9, 4, 0), walshCodes(16)[:9], walshCodes(16), mixedArray(9, 32, 0), mixedArray(10, 2, 0), mixedArray(1000, 1, 0), mixedArray(256, 8, 0), make([][]int, 1000), make([][]int, 8), make([][]int, 9),
		mixedArray(1, 33, 0), mixedArray(8, 33, 0), mixedArray(9, 33, 0), mixedArray(2, 64, 0), {repeated(0, 33)}, {rising(1000)}, slices.Repeat([][]int{rising(1000)}, 8),
		append(mixedArray(7, 32, 0), rising(33)), append([][]int{rising(33)}, mixedArray(7, 32, 0)...),
	}
	for users := 1; users <= impl.MaxUsers; users++ {
		for _, n := range []int{1, 2, 3, 4, 8, 31, 32} {
			for i := range users {
				for _, length := range []int{0, n - 1, n + 1} {
					if users > 1 || length < 1 || length > impl.MaxLength {
						all = append(all, changed(mixedArray(users, n, i), i, rising(length)))
					}
				}
				for j := range n {
					bad := notPhases()[(3*users+i+j)%12]
					all = append(all, changed(mixedArray(users, n, j), i, changed(rising(n), j, bad)))
				}
			}
		}
	}
	return all
}

// notCode returns lists that are no code of a signal.
func notCode() [][]int {
	return append(badPhases(), nil, []int{}, repeated(0, 33), rising(64))
}

// notSignals returns lists that are no signals: with a number that is no Gaussian number in each place, and overlong ones.
func notSignals() [][]gauss {
	var all [][]gauss
	for _, n := range []int{1, 2, 3, 4, 8, 31, 32, 33, 63, 64} {
		for i := range n {
			for _, bad := range notGauss() {
				all = append(all, withOne(n, g(1, 0), i, bad))
			}
		}
	}
	for _, n := range []int{65, 66, 96, 128, 1000} {
		all = append(all, slices.Repeat(reals(1), n), make([]gauss, n), mixedNumbers(n, 0, 5))
	}
	return all
}

// someData returns lists of data of so many users: small ones, and all ends of what is allowed.
func someData(users int) [][]gauss {
	end := impl.MaxData
	all := [][]gauss{make([]gauss, users), mixedNumbers(users, 0, 3), mixedNumbers(users, 1, 30), mixedNumbers(users, 2, end)}
	for _, z := range []gauss{g(end, 0), g(0, -end), g(-end, end), g(end, end), g(1, -1)} {
		all = append(all, slices.Repeat([]gauss{z}, users), withOne(users, g(0, 0), users/2, z), withOne(users, g(-end, -end), users-1, z))
	}
	return all
}

// notData has numbers just and far outside what data may be.
func notData() []gauss {
	end := impl.MaxData
	return append(notGauss(), g(end+1, 0), g(-end-1, 0), g(0, end+1), g(0, -end-1), g(end+1, -end), g(end, -end-1), g(most, 0), g(0, -most), g(1<<32, 0), g(0, -1<<32))
}

// peaked returns numbers whose match with a code is a sum exactly: they add up along its phases, and what is left comes at an index.
func peaked(code []int, sum gauss, at int) []gauss {
	n := len(code)
	z := valuesOf(code, g(sum.Re/n, sum.Im/n))
	z[at] = plus(z[at], turned(g(sum.Re%n, sum.Im%n), code[at]))
	return z
}

// longCodes returns codes of all numbers of phases.
func longCodes() [][]int {
	var all [][]int
	for n := 1; n <= impl.MaxLength; n++ {
		all = append(all, repeated(n%4, n), rising(n), mixedPhases(n, 2))
	}
	return append(all, seq("++-"), seq("+++-"), seq("+i-j"))
}

// someSignals returns signals of n numbers, with those of the greatest parts among them.
func someSignals(n int) [][]gauss {
	return [][]gauss{
		make([]gauss, n), slices.Repeat(reals(1), n), mixedNumbers(n, 0, 1), mixedNumbers(n, 1, 9), mixedNumbers(n, 2, most/32), mixedNumbers(n, 3, most),
		slices.Repeat([]gauss{g(most, -most)}, n), valuesOf(rising(n), g(0, most)), valuesOf(mixedPhases(n, 2), g(most/32, 0)),
	}
}

func TestLimitsOfSpreading(t *testing.T) {
	if impl.MaxUsers != 8 || impl.MaxData != 1000 {
		t.Error("the limits are", impl.MaxUsers, impl.MaxData)
	}
}

func TestAreCodes(t *testing.T) {
	for _, codes := range someCodes() {
		if !impl.AreCodes(codes) {
			t.Errorf("%v should be codes", codes)
		}
	}
	for _, bad := range notCodes() {
		if impl.AreCodes(bad) {
			t.Errorf("%v should be no codes", bad)
		}
	}
}

func TestAreOrthogonal(t *testing.T) {
	for _, c := range []struct {
		codes string
		want  bool
	}{
		{"++ +-", true}, {"+", true}, {"j", true}, {"++-", true}, {"+ +", false}, {"+ -", false}, {"+ i", false}, {"++ ++", false}, {"++ ii", false}, {"++ --", false}, {"++ +i", false}, {"+i +j", true}, {"ij +i", false}, {"+i i+", true}, {"+i i-", false}, {"++ ij", true},
		{"++ +- ++", false}, {"++ +- +-", false}, {"++ ++ +-", false}, {"++ +- -+", false}, {"+++ ++-", false}, {"+++ +i-", false}, {"++++ +i-j +-+- +j-i", true}, {"++++ +i-j +-+- +ji-", false}, {"++++ ++-- +ii+", false}, {"++++ +-ij", true},
	} {
		are, ok := impl.AreOrthogonal(rowsOf(c.codes))
		wantOne(t, called("AreOrthogonal", c.codes), are, ok, c.want, true)
	}
}

// TestOrthogonalCodes counts differences of phases for many codes, and turns orthogonal ones, or puts one of them twice.
func TestOrthogonalCodes(t *testing.T) {
	for _, codes := range someCodes() {
		are, ok := impl.AreOrthogonal(codes)
		wantOne(t, called("AreOrthogonal", codes), are, ok, areApart(codes, upTo(len(codes))), true)
	}
	for seed, codes := range orthogonalCodes() {
		for _, others := range [][][]int{codes, turnedCodes(codes, seed)} {
			are, ok := impl.AreOrthogonal(others)
			wantOne(t, called("AreOrthogonal", others), are, ok, true, true)
		}
		if len(codes) < impl.MaxUsers {
			for i := range codes {
				twice := append(slices.Clone(codes), turnedList(codes[i], seed%4))
				are, ok := impl.AreOrthogonal(twice)
				wantOne(t, called("AreOrthogonal", twice), are, ok, false, true)
			}
		}
	}
}

func TestSpreadOf(t *testing.T) {
	for _, c := range []struct {
		codes string
		data  []gauss
		want  []gauss
		fine  bool
	}{
		{"++ +-", reals(3, 1), reals(4, 2), true}, {"+", reals(0), reals(0), true}, {"j", []gauss{g(2, 3)}, []gauss{g(3, -2)}, true}, {"+i-j", []gauss{g(1, 0)}, []gauss{g(1, 0), g(0, 1), g(-1, 0), g(0, -1)}, true},
		{"++ ++", reals(1, 2), reals(3, 3), true}, {"++ --", reals(5, 5), reals(0, 0), true}, {"+i i+ --", []gauss{g(1, 1), g(2, 0), g(0, 3)}, []gauss{g(1, 0), g(1, -2)}, true},
		{"+ +", reals(1000, 1000), reals(2000), true}, {"+ +", reals(1000, 1001), nil, false}, {"+", reals(-1001), nil, false}, {"+", reals(-1000), reals(-1000), true}, {"+", []gauss{g(0, 1001)}, nil, false},
		{"+", nil, nil, false}, {"+", reals(1, 2), nil, false}, {"++ +-", reals(1), nil, false}, {"++ +-", nil, nil, false}, {"++ +-", reals(1, 2, 3), nil, false}, {"", nil, nil, false}, {"", reals(1), nil, false},
	} {
		z, ok := impl.SpreadOf(rowsOf(c.codes), c.data)
		wantList(t, called("SpreadOf", c.codes, c.data), z, ok, c.want, c.fine)
	}
}

// TestSpreading spreads for many codes, orthogonal or not, what their number of data are, and others.
func TestSpreading(t *testing.T) {
	for _, codes := range someCodes() {
		for i, data := range someData(len(codes)) {
			if len(codes) > 1 && i%3 == len(codes[0])%3 || len(codes[0]) > 3 || i < 3 {
				z, ok := impl.SpreadOf(codes, data)
				wantList(t, called("SpreadOf", codes, data), z, ok, sent(codes, data), true)
			}
		}
		for _, users := range []int{0, 1, len(codes) - 1, len(codes) + 1, 2 * len(codes), 9, 1000} {
			if users != len(codes) {
				z, ok := impl.SpreadOf(codes, make([]gauss, users))
				wantList(t, called("SpreadOf", codes, users), z, ok, nil, false)
			}
		}
	}
}

// TestDataOutside puts numbers that are no data in each place.
func TestDataOutside(t *testing.T) {
	for users := 1; users <= impl.MaxUsers; users++ {
		for _, codes := range [][][]int{mixedArray(users, 5, 0), walshCodes(8)[:users], walshCodes(32)[:users]} {
			for i := range users {
				for _, bad := range notData() {
					data := withOne(users, g(1, 0), i, bad)
					z, ok := impl.SpreadOf(codes, data)
					wantList(t, called("SpreadOf", codes, data), z, ok, nil, false)
				}
			}
		}
	}
}

func TestMatchOf(t *testing.T) {
	for _, c := range []struct {
		z    []gauss
		code string
		want gauss
		fine bool
	}{
		{reals(4, 2), "++", g(6, 0), true}, {reals(4, 2), "+-", g(2, 0), true}, {reals(5), "+", g(5, 0), true}, {[]gauss{g(2, 3)}, "i", g(3, -2), true}, {[]gauss{g(2, 3)}, "-", g(-2, -3), true}, {[]gauss{g(2, 3)}, "j", g(-3, 2), true},
		{[]gauss{g(1, 0), g(0, 1), g(-1, 0), g(0, -1)}, "+i-j", g(4, 0), true}, {[]gauss{g(1, 0), g(0, 1), g(-1, 0), g(0, -1)}, "+j-i", g(0, 0), true},
		{reals(most, 1), "+-", g(most-1, 0), true}, {reals(most, 0), "++", g(most, 0), true}, {reals(most, 1), "++", g(0, 0), false}, {reals(-most, 1), "+-", g(0, 0), false}, {[]gauss{g(0, most), g(1, 0)}, "+j", g(0, 0), false}, {[]gauss{g(0, most), g(1, 0)}, "+i", g(0, most-1), true},
		{nil, "", g(0, 0), false}, {nil, "+", g(0, 0), false}, {reals(1), "", g(0, 0), false}, {reals(1), "++", g(0, 0), false}, {reals(1, 1), "+", g(0, 0), false}, {reals(1, 1, 1), "++", g(0, 0), false},
	} {
		z, ok := impl.MatchOf(c.z, seq(c.code))
		wantOne(t, called("MatchOf", c.z, c.code), z, ok, c.want, c.fine)
	}
}

// wantMatch checks the match of as many numbers as a code has phases.
func wantMatch(t *testing.T, z []gauss, code []int) {
	t.Helper()
	sum := matchSum(z, code)
	got, ok := impl.MatchOf(z, code)
	wantOne(t, called("MatchOf", z, code), got, ok, sum, areGauss(append(slices.Clone(z), sum)))
}

// TestMatches sums for codes of all lengths, and takes signals of other lengths.
func TestMatches(t *testing.T) {
	for _, code := range longCodes() {
		for _, z := range someSignals(len(code)) {
			wantMatch(t, z, code)
			wantMatch(t, added(valuesOf(code, g(3, -5)), mixedNumbers(len(code), 4, 2)), code)
		}
		for _, n := range []int{0, 1, len(code) - 1, len(code) + 1, 33, 2 * len(code), longest} {
			if n != len(code) {
				z, ok := impl.MatchOf(make([]gauss, n), code)
				wantOne(t, called("MatchOf", n, code), z, ok, g(0, 0), false)
			}
		}
	}
}

// TestMatchesAtTheLimit has matches at the limit of parts and one more, also where the numbers add up to more on the way.
func TestMatchesAtTheLimit(t *testing.T) {
	for _, code := range longCodes() {
		for turn := range 4 {
			for more := range 3 {
				for at := range code {
					wantMatch(t, peaked(code, turned(g(most+more-1, 1-most), turn), at), code)
					wantMatch(t, peaked(code, turned(g(5, most+more-1), turn), at), code)
				}
			}
			z := slices.Concat(valuesOf(code[:len(code)/2], turned(g(most, -most), turn)), valuesOf(code[len(code)/2:], turned(g(-most, most), turn)))
			for at := range code {
				wantMatch(t, z, code)
				wantMatch(t, changed(z, at, g(1, -2)), code)
				wantMatch(t, changed(z, at, g(most-1, most-2)), code)
				wantMatch(t, changed(z, at, g(-1, most)), code)
			}
		}
	}
}

func TestGatherOf(t *testing.T) {
	for _, c := range []struct {
		codes string
		z     []gauss
		want  []gauss
		fine  bool
	}{
		{"++ +-", reals(4, 2), reals(3, 1), true}, {"+-", reals(4, 2), reals(1), true}, {"+", reals(7), reals(7), true}, {"j", []gauss{g(3, -2)}, []gauss{g(2, 3)}, true}, {"+++", reals(1, 1, 4), reals(2), true},
		{"++ +-", reals(4, 1), nil, false}, {"++ +-", reals(5, 2), nil, false}, {"++ +-", []gauss{g(4, 1), g(2, 0)}, nil, false}, {"+++", reals(1, 1, 3), nil, false}, {"+++", reals(1, 1, -3), nil, false}, {"++", reals(-1, 0), nil, false},
		{"++ +i", reals(4, 2), nil, false}, {"++ ++", reals(4, 2), nil, false}, {"+ +", reals(4), nil, false}, {"++ +- ++", reals(4, 2), nil, false},
		{"++ +-", nil, nil, false}, {"++ +-", reals(4), nil, false}, {"++ +-", reals(4, 2, 0), nil, false}, {"+", nil, nil, false}, {"", nil, nil, false}, {"", reals(1), nil, false},
		{"+", reals(most), reals(most), true}, {"++ +-", reals(most, 0), reals(most/2, most/2), true}, {"++ +-", reals(most, most), reals(most, 0), true}, {"++++", reals(most, most, most, most), reals(most), true}, {"+-+-", reals(-most, most, -most, most), reals(-most), true},
	} {
		data, ok := impl.GatherOf(rowsOf(c.codes), c.z)
		wantList(t, called("GatherOf", c.codes, c.z), data, ok, c.want, c.fine)
	}
}

// TestDataComeBack spreads data by orthogonal codes and gathers them again, by matches, too.
func TestDataComeBack(t *testing.T) {
	for _, codes := range orthogonalCodes() {
		for _, data := range someData(len(codes)) {
			z, ok := impl.SpreadOf(codes, data)
			wantList(t, called("SpreadOf", codes, data), z, ok, sent(codes, data), true)
			back, ok := impl.GatherOf(codes, z)
			wantList(t, called("GatherOf", codes, z), back, ok, data, true)
			for i, code := range codes {
				match, ok := impl.MatchOf(z, code)
				wantOne(t, called("MatchOf", z, code), match, ok, g(len(code)*data[i].Re, len(code)*data[i].Im), true)
				one, ok := impl.GatherOf(codes[i:i+1], z)
				wantList(t, called("GatherOf", codes[i:i+1], z), one, ok, data[i:i+1], true)
			}
		}
	}
}

// TestGathering gathers what no codes have spread, with one number more or less, and by codes that are not orthogonal.
func TestGathering(t *testing.T) {
	for seed, codes := range someCodes() {
		n := len(codes[0])
		apart := areApart(codes, upTo(len(codes)))
		spread := sent(codes, mixedNumbers(len(codes), seed, 9))
		signals := append(someSignals(n), spread, changed(spread, seed%n, plus(spread[seed%n], turned(g(1, 0), seed))), changed(spread, seed%n, plus(spread[seed%n], g(n, -n))))
		for _, z := range signals {
			want, fine := gathered(codes, z)
			data, ok := impl.GatherOf(codes, z)
			wantList(t, called("GatherOf", codes, z), data, ok, want, fine && apart)
		}
		for _, length := range []int{0, 1, n - 1, n + 1, 2 * n, longest} {
			if length != n {
				data, ok := impl.GatherOf(codes, make([]gauss, length))
				wantList(t, called("GatherOf", codes, length), data, ok, nil, false)
			}
		}
	}
}

func TestDelayedOf(t *testing.T) {
	for _, c := range []struct {
		code          string
		x             gauss
		delay, length int
		want          []gauss
		fine          bool
	}{
		{"++-", g(1, 0), 2, 6, reals(0, 0, 1, 1, -1, 0), true}, {"++-", g(1, 0), 4, 6, reals(0, 0, 0, 0, 1, 1), true}, {"++-", g(1, 0), 5, 6, reals(0, 0, 0, 0, 0, 1), true}, {"++-", g(1, 0), 6, 6, nil, false}, {"++-", g(1, 0), -1, 6, nil, false}, {"++-", g(1, 0), 3, 6, reals(0, 0, 0, 1, 1, -1), true},
		{"++-", g(1, 0), 0, 1, reals(1), true}, {"++-", g(1, 0), 0, 0, nil, false}, {"++-", g(1, 0), 1, 1, nil, false}, {"++-", g(1, 0), 0, 3, reals(1, 1, -1), true}, {"++-", g(1, 0), 0, 2, reals(1, 1), true}, {"j", g(2, 3), 1, 3, []gauss{g(0, 0), g(3, -2), g(0, 0)}, true},
		{"+i-j", g(most, -most), 0, 5, []gauss{g(most, -most), g(most, most), g(-most, most), g(-most, -most), g(0, 0)}, true}, {"+", g(0, 0), 0, 2, reals(0, 0), true},
		{"", g(1, 0), 0, 1, nil, false}, {"+", g(most+1, 0), 0, 1, nil, false}, {"+", g(0, -most-1), 0, 1, nil, false}, {"+", g(1, 0), 0, -1, nil, false}, {"+", g(1, 0), -2, -1, nil, false}, {"+", g(1, 0), -1, 0, nil, false}, {"+", g(1, 0), 0, 65, nil, false}, {"+", g(1, 0), 64, 65, nil, false},
	} {
		z, ok := impl.DelayedOf(seq(c.code), c.x, c.delay, c.length)
		wantList(t, called("DelayedOf", c.code, c.x, c.delay, c.length), z, ok, c.want, c.fine)
	}
}

// TestDelays delays codes of all lengths in signals of all lengths, by all numbers and just outside.
func TestDelays(t *testing.T) {
	for i, code := range longCodes() {
		for length := -1; length <= longest+2; length++ {
			x := edgeGauss()[(7*i+length+1)%len(edgeGauss())]
			for delay := -2; delay <= max(length, 0)+1; delay++ {
				var want []gauss
				fine := 1 <= length && length <= longest && 0 <= delay && delay < length
				if fine {
					want = delayed(code, x, delay, length)
				}
				z, ok := impl.DelayedOf(code, x, delay, length)
				wantList(t, called("DelayedOf", code, x, delay, length), z, ok, want, fine)
			}
		}
		for _, bad := range notIn(1, longest) {
			for _, delay := range []int{0, 1, bad - 1, bad} {
				z, ok := impl.DelayedOf(code, g(1, 0), delay, bad)
				wantList(t, called("DelayedOf", code, delay, bad), z, ok, nil, false)
			}
		}
		for _, bad := range notIndices(longest) {
			z, ok := impl.DelayedOf(code, g(1, 0), bad, longest)
			wantList(t, called("DelayedOf", code, bad), z, ok, nil, false)
		}
	}
}

func TestAddSignals(t *testing.T) {
	for _, c := range []struct {
		a, b, want []gauss
		fine       bool
	}{
		{nil, nil, nil, true}, {[]gauss{}, nil, nil, true}, {reals(1, 2), reals(3, -4), reals(4, -2), true}, {[]gauss{g(1, 2)}, []gauss{g(-3, 5)}, []gauss{g(-2, 7)}, true},
		{reals(most), reals(0), reals(most), true}, {reals(most), reals(1), nil, false}, {reals(0, -most), reals(0, -1), nil, false}, {[]gauss{g(0, most)}, []gauss{g(0, 1)}, nil, false}, {reals(most, 1), reals(-most, most-1), reals(0, most), true}, {reals(most), reals(most), nil, false}, {[]gauss{g(-1, -most)}, []gauss{g(1-most, 0)}, []gauss{g(-most, -most)}, true},
		{nil, reals(0), nil, false}, {reals(0), nil, nil, false}, {reals(1, 2), reals(1), nil, false}, {reals(1), reals(1, 2), nil, false},
	} {
		z, ok := impl.AddSignals(c.a, c.b)
		wantList(t, called("AddSignals", c.a, c.b), z, ok, c.want, c.fine)
	}
}

// TestSignalsAreAdded adds signals of all lengths, and takes others away from each other, and puts a sum just outside in each place.
func TestSignalsAreAdded(t *testing.T) {
	for n := range longest + 1 {
		for i, a := range someSignals(n) {
			for _, b := range someSignals(n)[i%3:] {
				want, fine := wants(added(a, b))
				z, ok := impl.AddSignals(a, b)
				wantList(t, called("AddSignals", a, b), z, ok, want, fine)
				back, ok := impl.AddSignals(z, turnedPoints(b, 2))
				wantList(t, called("AddSignals", z, b), back, ok, a, fine || n == 0)
			}
			for m := range n {
				z, ok := impl.AddSignals(a, a[:m])
				wantList(t, called("AddSignals", a, m), z, ok, nil, false)
				z, ok = impl.AddSignals(a[:m], a)
				wantList(t, called("AddSignals", m, a), z, ok, nil, false)
			}
		}
		for at := range n {
			for more := range 2 {
				for turn := range 4 {
					a, b := withOne(n, g(2, 1), at, turned(g(most-3, -7), turn)), withOne(n, g(most-2, -most), at, turned(g(3+more, 7), turn))
					want, fine := wants(added(a, b))
					z, ok := impl.AddSignals(a, b)
					wantList(t, called("AddSignals", a, b), z, ok, want, fine)
				}
			}
		}
	}
}

func TestFilterOf(t *testing.T) {
	for _, c := range []struct {
		z    []gauss
		code string
		want []gauss
		fine bool
	}{
		{reals(0, 0, 1, 1, -1, 0), "++-", reals(-1, 0, 3, 0), true}, {reals(4, 2), "++", reals(6), true}, {reals(4, 2), "+", reals(4, 2), true}, {[]gauss{g(2, 3), g(0, 1)}, "i", []gauss{g(3, -2), g(1, 0)}, true}, {reals(1, 2, 4), "+i", []gauss{g(1, -2), g(2, -4)}, true},
		{nil, "+", nil, true}, {[]gauss{}, "++", nil, true}, {reals(1), "++", nil, true}, {reals(1, 2), "+++", nil, true}, {nil, "", nil, false}, {reals(1), "", nil, false},
		{reals(most, 0, 1), "++", reals(most, 1), true}, {reals(most, 1, 1), "++", nil, false}, {reals(0, 0, 1, most), "++", nil, false}, {reals(0, 0, 1, most), "+-", reals(0, -1, 1-most), true}, {reals(0, 0, -1, most), "+-", nil, false},
	} {
		z, ok := impl.FilterOf(c.z, seq(c.code))
		wantList(t, called("FilterOf", c.z, c.code), z, ok, c.want, c.fine)
	}
}

func TestFindDelay(t *testing.T) {
	for _, c := range []struct {
		z    []gauss
		code string
		want int
		fine bool
	}{
		{reals(0, 0, 1, 1, -1, 0), "++-", 2, true}, {reals(0, 0, 0), "+", 0, true}, {reals(0, 0, 0), "++", 0, true}, {reals(1, 1, 1), "+", 0, true}, {reals(1, 2, 2), "+", 1, true}, {reals(1, -2, 2), "+", 1, true}, {[]gauss{g(3, 0), g(0, 5), g(4, 3), g(-5, 0)}, "+", 1, true}, {reals(0, 0, 7), "j", 2, true},
		{reals(1, 1, 0, 1, 1), "++", 0, true}, {reals(0, 1, 0, 1, 1), "++", 3, true}, {reals(1, 2, 3), "+++", 0, true},
		{nil, "+", 0, false}, {[]gauss{}, "++", 0, false}, {reals(1), "++", 0, false}, {reals(1, 2), "+++", 0, false}, {nil, "", 0, false}, {reals(1), "", 0, false},
		{reals(0, most, most), "++", 1, true}, {reals(most, most, 0, most), "+-", 1, true},
	} {
		delay, ok := impl.FindDelay(c.z, seq(c.code))
		wantOne(t, called("FindDelay", c.z, c.code), delay, ok, c.want, c.fine)
	}
}

// wantFilter checks all matches with a code, and the first greatest one of them.
func wantFilter(t *testing.T, z []gauss, code []int) {
	t.Helper()
	sums := matchSums(z, code)
	want, fine := wants(sums)
	got, ok := impl.FilterOf(z, code)
	wantList(t, called("FilterOf", z, code), got, ok, want, fine)
	delay, ok := impl.FindDelay(z, code)
	wantOne(t, called("FindDelay", z, code), delay, ok, firstPeak(sums), len(code) <= len(z))
}

// TestFilters filters signals of all lengths by codes of all lengths, those that have no room among them.
func TestFilters(t *testing.T) {
	for n := range longest + 1 {
		for i, code := range longCodes() {
			for j, z := range someSignals(n) {
				if (i+j)%2 == 0 {
					wantFilter(t, z, code)
				}
			}
			wantFilter(t, mixedNumbers(n, i, 2), code)
		}
	}
}

// TestFiltersAtTheLimit has a match at the limit, or one more or less, at each index, and two matches that differ by as little.
func TestFiltersAtTheLimit(t *testing.T) {
	for _, code := range longCodes() {
		for _, length := range []int{len(code), len(code) + 1, len(code) + 5, longest} {
			for delay := range length - len(code) + 1 {
				for more := range 3 {
					sum := turned(g(most+more-1, -7), delay)
					z := slices.Concat(make([]gauss, delay), peaked(code, sum, delay%len(code)), make([]gauss, length))[:length]
					if areGauss(z) {
						wantFilter(t, z, code)
					}
				}
				wantFilter(t, withOne(length, g(most, -most), delay, g(most-1, -most)), code)
				wantFilter(t, withOne(length, g(most, 1), delay, g(most, 0)), code)
				wantFilter(t, withOne(length, g(0, -most), length-1-delay, g(0, 1-most)), repeated(delay%4, len(code)))
			}
		}
	}
}

// TestCodesAreFound delays a code alone: its filter has the greatest norm just there, as great as all phases make it.
func TestCodesAreFound(t *testing.T) {
	for i, code := range longCodes() {
		n := len(code)
		for length := n; length <= longest; length++ {
			for delay := 0; delay+n <= length; delay += 1 + i%3 {
				x := turned(g(1+(length*delay)%(most/32), 0), delay)
				z, ok := impl.DelayedOf(code, x, delay, length)
				wantList(t, called("DelayedOf", code, x, delay, length), z, ok, delayed(code, x, delay, length), true)
				found, ok := impl.FindDelay(z, code)
				wantOne(t, called("FindDelay", z, code), found, ok, delay, true)
				matches, ok := impl.FilterOf(z, code)
				if !ok || len(matches) != length-n+1 || matches[delay] != g(n*x.Re, n*x.Im) {
					t.Fatalf("%s is %v, %v", called("FilterOf", z, code), matches, ok)
				}
				for at, match := range matches {
					if at != delay && norm(match) >= norm(matches[delay]) {
						t.Errorf("%s has as great a match at %d", called("FilterOf", z, code), at)
					}
				}
			}
		}
	}
}

// TestFiltersAdd filters the sum of two signals, which is the sum of what is filtered of each.
func TestFiltersAdd(t *testing.T) {
	for n := range longest + 1 {
		for seed, code := range longCodes() {
			a, b := mixedNumbers(n, seed, 100), mixedNumbers(n, seed+1, 5000)
			sum, first := impl.AddSignals(a, b)
			left, second := impl.FilterOf(a, code)
			right, third := impl.FilterOf(b, code)
			apart, fourth := impl.AddSignals(left, right)
			together, ok := impl.FilterOf(sum, code)
			wantList(t, called("FilterOf", sum, code), together, ok, apart, first && second && third && fourth)
		}
	}
}

func TestPeakOf(t *testing.T) {
	for _, c := range []struct {
		z    []gauss
		want int
	}{
		{nil, 0}, {[]gauss{}, 0}, {reals(0), 0}, {reals(1, -3, 2), 9}, {[]gauss{g(3, -4), g(5, 1), g(-2, 2)}, 26}, {[]gauss{g(0, -7), g(4, 4)}, 49}, {reals(5, 0), 25}, {reals(0, 5), 25},
		{[]gauss{g(most, -most)}, 2 * most * most}, {[]gauss{g(most, 0), g(most-1, 1)}, most * most}, {[]gauss{g(most, most-1), g(most-1, -most)}, most*most + (most-1)*(most-1)},
	} {
		peak, ok := impl.PeakOf(c.z)
		wantOne(t, called("PeakOf", c.z), peak, ok, c.want, true)
	}
}

// TestPeaks has the peak of signals of all lengths in each place.
func TestPeaks(t *testing.T) {
	for n := range longest + 1 {
		for _, z := range someSignals(n) {
			want := 0
			for _, number := range z {
				want = max(want, norm(number))
			}
			peak, ok := impl.PeakOf(z)
			wantOne(t, called("PeakOf", z), peak, ok, want, true)
		}
		for at := range n {
			for _, size := range []gauss{g(1, 0), g(0, -1), g(most, 1), g(-3, most-5), g(-most, -most)} {
				z := withOne(n, g(0, 0), at, size)
				peak, ok := impl.PeakOf(z)
				wantOne(t, called("PeakOf", z), peak, ok, norm(size), true)
				z = withOne(n, g(size.Re/2, size.Im/3), at, size)
				peak, ok = impl.PeakOf(z)
				wantOne(t, called("PeakOf", z), peak, ok, norm(size), true)
			}
		}
	}
}

func TestDisturbanceOf(t *testing.T) {
	for _, c := range []struct {
		codes string
		want  [][]int
	}{
		{"++ +-", [][]int{{4, 0}, {0, 4}}}, {"+", [][]int{{1}}}, {"j", [][]int{{1}}}, {"++-", [][]int{{9}}}, {"++ +i", [][]int{{4, 2}, {2, 4}}}, {"++ ii", [][]int{{4, 4}, {4, 4}}}, {"++i +-- jj+", [][]int{{9, 1, 9}, {1, 9, 1}, {9, 1, 9}}},
		{"+++- +i++ ++++", [][]int{{16, 2, 4}, {2, 16, 10}, {4, 10, 16}}},
	} {
		rows, ok := impl.DisturbanceOf(rowsOf(c.codes))
		wantMatrix(t, called("DisturbanceOf", c.codes), rows, ok, c.want, true)
	}
}

// TestDisturbances counts differences of phases for each two of many codes.
func TestDisturbances(t *testing.T) {
	for _, codes := range someCodes() {
		var want [][]int
		for i := range codes {
			want = append(want, nil)
			for j := range codes {
				want[i] = append(want[i], disturbed(codes[i], codes[j]))
			}
		}
		rows, ok := impl.DisturbanceOf(codes)
		wantMatrix(t, called("DisturbanceOf", codes), rows, ok, want, true)
		for i := range rows {
			match, ok := impl.MatchOf(valuesOf(codes[i], g(1, 0)), codes[len(codes)-1])
			wantOne(t, called("DisturbanceOf", codes, i), norm(match), ok, rows[i][len(codes)-1], true)
		}
	}
	for _, codes := range orthogonalCodes() {
		n := len(codes[0])
		var want [][]int
		for i := range codes {
			want = append(want, changed(repeated(0, len(codes)), i, n*n))
		}
		rows, ok := impl.DisturbanceOf(codes)
		wantMatrix(t, called("DisturbanceOf", codes), rows, ok, want, true)
	}
}

func TestGreatestSet(t *testing.T) {
	for _, c := range []struct {
		codes string
		want  []int
	}{
		{"++ +-", []int{0, 1}}, {"+", []int{0}}, {"+ +", []int{0}}, {"++ ++", []int{0}}, {"++ ii +-", []int{0, 2}}, {"++ +- -+ --", []int{0, 1}}, {"++ +i +- +j", []int{0, 2}}, {"+i ++ -- +-", []int{1, 3}}, {"+++ ++- +-+ -++", []int{0}},
		{"++++ ++-- +++- +-+- +--+", []int{0, 1, 3, 4}}, {"+++- ++++ ++-+ +-++ -+++ ++--", []int{0, 2, 3, 4}}, {"++++ ++-- +i+j ++-- +-+-", []int{0, 1, 4}}, {"+++i ++++ ++-- +-+-", []int{1, 2, 3}},
	} {
		set, ok := impl.GreatestSet(rowsOf(c.codes))
		wantList(t, called("GreatestSet", c.codes), set, ok, c.want, true)
	}
}

// TestGreatestSets looks at all sets of many codes, and takes orthogonal ones with others ahead of them and between them.
func TestGreatestSets(t *testing.T) {
	all := someCodes()
	for i, codes := range orthogonalCodes() {
		set, ok := impl.GreatestSet(codes)
		wantList(t, called("GreatestSet", codes), set, ok, upTo(len(codes)), true)
		n := len(codes[0])
		for place := range codes {
			more := slices.Insert(slices.Clone(codes), place, mixedPhases(n, i), turnedList(codes[0], i), repeated(i%4, n))
			all = append(all, more[:min(len(more), impl.MaxUsers)])
		}
	}
	for _, codes := range all {
		set, ok := impl.GreatestSet(codes)
		wantList(t, called("GreatestSet", codes), set, ok, firstGreatest(codes), true)
	}
}

func TestExtendCodes(t *testing.T) {
	for _, c := range []struct {
		codes string
		want  string
		fine  bool
	}{
		{"++ +-", "++++ +-+- ++-- +--+", true}, {"+", "++ +-", true}, {"j", "jj ji", true}, {"+ i - j", "++ ii -- jj +- ij -+ ji", true}, {"+i-j", "+i-j+i-j +i-j-j+i", true}, {"++++++++", "++++++++++++++++ ++++++++--------", true},
		{"+ i - j +", "", false}, {"++ +i +- +j ++", "", false}, {"+++", "", false}, {"+++++", "", false}, {"++++++", "", false}, {"+++++++", "", false}, {"+++++++++", "", false}, {"++++++++++++++++", "", false}, {"++++++++++++++++++++++++++++++++", "", false}, {"", "", false},
	} {
		codes, ok := impl.ExtendCodes(rowsOf(c.codes))
		wantMatrix(t, called("ExtendCodes", c.codes), codes, ok, rowsOf(c.want), c.fine)
	}
}

// TestExtending extends codes of all sizes: what comes of it is orthogonal just if they are.
func TestExtending(t *testing.T) {
	for _, codes := range someCodes() {
		n := len(codes[0])
		var want [][]int
		for _, code := range codes {
			want = append(want, slices.Concat(code, code))
		}
		for _, code := range codes {
			want = append(want, slices.Concat(code, turnedList(code, 2)))
		}
		fine := len(codes) <= 4 && slices.Contains([]int{1, 2, 4, 8}, n)
		extended, ok := impl.ExtendCodes(codes)
		wantMatrix(t, called("ExtendCodes", codes), extended, ok, want, fine)
		if ok {
			are, good := impl.AreOrthogonal(extended)
			wantOne(t, called("AreOrthogonal", extended), are, good, areApart(codes, upTo(len(codes))), true)
		}
	}
}

// TestExtendedAgain extends one code as often as it can be: to two, four and eight codes.
func TestExtendedAgain(t *testing.T) {
	for _, code := range slices.Concat(sequencesOf(1), sequencesOf(2), sequencesOf(4), [][]int{mixedPhases(8, 0), rising(8)}) {
		codes := [][]int{code}
		for users := 2; users <= 8; users *= 2 {
			n := 2 * len(codes[0])
			extended, ok := impl.ExtendCodes(codes)
			if n > 16 {
				wantMatrix(t, called("ExtendCodes", codes), extended, ok, nil, false)
				break
			}
			are, fine := impl.AreOrthogonal(extended)
			if !ok || !are || !fine || len(extended) != users || len(extended[0]) != n {
				t.Fatalf("%s is %v, %v", called("ExtendCodes", codes), extended, ok)
			}
			codes = extended
		}
	}
	extended, ok := impl.ExtendCodes(walshCodes(8))
	wantMatrix(t, "ExtendCodes of eight codes", extended, ok, nil, false)
}

// TestNoCodes gives lists that are no codes to each function that requires some.
func TestNoCodes(t *testing.T) {
	for _, bad := range notCodes() {
		are, ok := impl.AreOrthogonal(bad)
		wantOne(t, called("AreOrthogonal", bad), are, ok, false, false)
		for _, n := range []int{0, 1, 2, min(len(bad), 1000)} {
			z, ok := impl.SpreadOf(bad, make([]gauss, n))
			wantList(t, called("SpreadOf", bad, n), z, ok, nil, false)
			z, ok = impl.GatherOf(bad, make([]gauss, n))
			wantList(t, called("GatherOf", bad, n), z, ok, nil, false)
		}
		for _, code := range bad[:min(len(bad), 10)] {
			z, ok := impl.GatherOf(bad, make([]gauss, len(code)))
			wantList(t, called("GatherOf", bad, len(code)), z, ok, nil, false)
		}
		rows, ok := impl.DisturbanceOf(bad)
		wantMatrix(t, called("DisturbanceOf", bad), rows, ok, nil, false)
		set, ok := impl.GreatestSet(bad)
		wantList(t, called("GreatestSet", bad), set, ok, nil, false)
		extended, ok := impl.ExtendCodes(bad)
		wantMatrix(t, called("ExtendCodes", bad), extended, ok, nil, false)
	}
}

// TestNoCode gives lists that are no code to each function that requires one.
func TestNoCode(t *testing.T) {
	for _, bad := range notCode() {
		for _, n := range []int{0, 1, len(bad), longest} {
			signal := make([]gauss, n)
			match, ok := impl.MatchOf(signal, bad)
			wantOne(t, called("MatchOf", n, bad), match, ok, g(0, 0), false)
			z, ok := impl.FilterOf(signal, bad)
			wantList(t, called("FilterOf", n, bad), z, ok, nil, false)
			delay, ok := impl.FindDelay(signal, bad)
			wantOne(t, called("FindDelay", n, bad), delay, ok, 0, false)
			z, ok = impl.DelayedOf(bad, g(1, 0), 0, n)
			wantList(t, called("DelayedOf", bad, n), z, ok, nil, false)
		}
	}
}

// TestNoSignalsToHear gives lists that are no signals to each function that requires one.
func TestNoSignalsToHear(t *testing.T) {
	for _, bad := range notSignals() {
		for _, code := range [][]int{{0}, rising(min(len(bad), impl.MaxLength)), repeated(0, impl.MaxLength)} {
			match, ok := impl.MatchOf(bad, code)
			wantOne(t, called("MatchOf", bad, code), match, ok, g(0, 0), false)
			z, ok := impl.FilterOf(bad, code)
			wantList(t, called("FilterOf", bad, code), z, ok, nil, false)
			delay, ok := impl.FindDelay(bad, code)
			wantOne(t, called("FindDelay", bad, code), delay, ok, 0, false)
			z, ok = impl.GatherOf([][]int{code}, bad)
			wantList(t, called("GatherOf", code, bad), z, ok, nil, false)
		}
		for _, other := range [][]gauss{bad, nil, make([]gauss, len(bad)), turnedPoints(bad, 2)} {
			z, ok := impl.AddSignals(bad, other)
			wantList(t, called("AddSignals", bad, other), z, ok, nil, false)
			z, ok = impl.AddSignals(other, bad)
			wantList(t, called("AddSignals", other, bad), z, ok, nil, false)
		}
		peak, ok := impl.PeakOf(bad)
		wantOne(t, called("PeakOf", bad), peak, ok, 0, false)
	}
}

// TestNoNumbers delays codes times numbers that are no Gaussian numbers.
func TestNoNumbers(t *testing.T) {
	for _, bad := range notGauss() {
		for _, code := range longCodes() {
			for delay := range 3 {
				z, ok := impl.DelayedOf(code, bad, delay, 3)
				wantList(t, called("DelayedOf", code, bad, delay), z, ok, nil, false)
			}
		}
	}
}

// TestUsersEnd looks for what is left of the goroutines behind many calls: that of each user is to end.
func TestUsersEnd(t *testing.T) {
	before := runtime.NumGoroutine()
	for _, codes := range someCodes() {
		impl.SpreadOf(codes, mixedNumbers(len(codes), 0, impl.MaxData))
		impl.SpreadOf(codes, mixedNumbers(len(codes), 0, most))
		impl.SpreadOf(codes, nil)
	}
	for range 1000 {
		if runtime.NumGoroutine() <= before {
			return
		}
		time.Sleep(time.Millisecond)
	}
	t.Error(runtime.NumGoroutine()-before, "goroutines are left")
}

// TestCodesOfOneMemory gives codes that are parts of one memory, which overlap or are the same.
func TestCodesOfOneMemory(t *testing.T) {
	memory := mixedPhases(60, 4)
	before := slices.Clone(memory)
	for n := 1; n <= impl.MaxLength; n++ {
		for step := range 4 {
			var codes [][]int
			for i := range impl.MaxUsers - n%3 {
				codes = append(codes, memory[i*step:][:n])
			}
			data := mixedNumbers(len(codes), n, impl.MaxData)
			z, ok := impl.SpreadOf(codes, data)
			wantList(t, called("SpreadOf", codes, data), z, ok, sent(codes, data), true)
			set, ok := impl.GreatestSet(codes)
			wantList(t, called("GreatestSet", codes), set, ok, firstGreatest(codes), true)
			sum, ok := impl.AddSignals(data[1:], data[:len(data)-1])
			wantList(t, called("AddSignals", data), sum, ok, added(data[1:], data), true)
			extended, ok := impl.ExtendCodes(codes[:2])
			for i := range extended {
				clear(extended[i])
			}
			wantOne(t, called("ExtendCodes", codes[:2]), ok, true, slices.Contains([]int{1, 2, 4, 8}, n), true)
			wantList(t, "the memory", memory, true, before, true)
		}
	}
}
