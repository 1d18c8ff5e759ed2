package tests

import (
	"math"
	"runtime"
	"slices"
	"testing"
	"time"

	"loop.example/g01177/impl"
)

// The tests of promise 7: chapter 7, a modem of quarter turns.

// pairOfBits has the two bits of each phase, as the document lists them.
func pairOfBits(k int) []int {
	return [][]int{{0, 0}, {0, 1}, {1, 1}, {1, 0}}[k]
}

// bitsFor returns the bits of phases.
func bitsFor(s []int) []int {
	var bits []int
	for _, k := range s {
		bits = append(bits, pairOfBits(k)...)
	}
	return bits
}

// phasesFor returns the phases of an even number of bits, each looked for among all four.
func phasesFor(bits []int) []int {
	var s []int
	for i := 0; i < len(bits); i += 2 {
		for k := range 4 {
			if slices.Equal(pairOfBits(k), bits[i:i+2]) {
				s = append(s, k)
			}
		}
	}
	return s
}

// bitsIn reads bits from a text of 0 and 1.
func bitsIn(text string) []int {
	bits := []int{}
	for _, letter := range text {
		bits = append(bits, int(letter-'0'))
	}
	return bits
}

// mixedBits returns n bits without a simple order, other ones for each seed.
func mixedBits(n int, seed int) []int {
	state := uint32(97*n + seed)
	bits := make([]int, n)
	for i := range bits {
		state = state*1664525 + 1013904223
		bits[i] = int(state >> 31)
	}
	return bits
}

// allBits returns all lists of n bits.
func allBits(n int) [][]int {
	all := make([][]int, 1<<n)
	for x := range all {
		for i := range n {
			all[x] = append(all[x], x>>i&1)
		}
	}
	return all
}

// notBits returns lists that are no bits: with another number in each place, and overlong ones.
func notBits() [][]int {
	others := append(notPhases(), 2, 3, 48, 49)
	var all [][]int
	for _, n := range []int{1, 2, 3, 4, 63, 64} {
		for i := range n {
			for _, other := range others {
				all = append(all, changed(mixedBits(n, i), i, other))
			}
		}
	}
	for _, n := range []int{65, 66, 67, 68, 96, 128, 1000} {
		all = append(all, repeated(0, n), mixedBits(n, 0))
	}
	return all
}

// oddBits returns bits that cannot be sent.
func oddBits() [][]int {
	var all [][]int
	for n := 1; n < impl.MaxBits; n += 2 {
		all = append(all, repeated(0, n), mixedBits(n, 1))
	}
	return all
}

// nearestTo returns the phase whose ray is least far from a point, and of two as near that to which the point turns in the direction of 1 to -i.
func nearestTo(z gauss) int {
	far := func(k int) int { // the square of the distance from the ray
		along := max(0, turned(z, -k).Re)
		return norm(z) - along*along
	}
	best := -1
	for k := range 4 {
		value := turned(g(1, 0), k)
		ahead := z.Re*value.Im-z.Im*value.Re < 0
		if best < 0 || far(k) < far(best) || far(k) == far(best) && ahead {
			best = k
		}
	}
	return best
}

// rayOf returns the phase on whose ray a point lies, or -1.
func rayOf(z gauss) int {
	switch {
	case z.Re > 0 && z.Im == 0:
		return 0
	case z.Re == 0 && z.Im > 0:
		return 1
	case z.Re < 0 && z.Im == 0:
		return 2
	case z.Re == 0 && z.Im < 0:
		return 3
	}
	return -1
}

// framesIn returns all places at which points lie on rays that are all turned by as much from a known sequence.
func framesIn(z []gauss, known []int) []int {
	var all []int
	for place := 0; place+len(known) <= len(z); place++ {
		fits := true
		for i, k := range known {
			ray := rayOf(z[place+i])
			fits = fits && ray >= 0 && (ray-k-rayOf(z[place])+known[0])%4 == 0
		}
		if fits {
			all = append(all, place)
		}
	}
	return all
}

// framePhases returns the phases of a known sequence, and those behind it that bits tell.
func framePhases(known []int, bits []int) []int {
	s := slices.Clone(known)
	for _, step := range phasesFor(bits) {
		s = append(s, (s[len(s)-1]+step)%4)
	}
	return s
}

// bitsBehind returns the n bits behind the first frame, or false if they cannot be read.
func bitsBehind(z []gauss, known []int, n int) ([]int, bool) {
	places := framesIn(z, known)
	if len(places) == 0 {
		return nil, false
	}
	var bits []int
	for i := places[0] + len(known); len(bits) < n; i++ {
		if i >= len(z) || z[i] == g(0, 0) {
			return nil, false
		}
		bits = append(bits, pairOfBits((nearestTo(z[i])-nearestTo(z[i-1])+4)%4)...)
	}
	return bits, true
}

// turnedPoints returns points that are all turned by k.
func turnedPoints(z []gauss, k int) []gauss {
	var all []gauss
	for _, point := range z {
		all = append(all, turned(point, k))
	}
	return all
}

// onRays returns points on the rays of phases, of different sizes.
func onRays(s []int) []gauss {
	sizes := []int{1, 2, 7, 1000, 4096, 999999, most}
	var z []gauss
	for i, k := range s {
		z = append(z, turned(g(sizes[i*i%7], 0), k))
	}
	return z
}

// noisy returns points around the rays of phases, up to the border that still belongs to them.
func noisy(s []int) []gauss {
	around := []gauss{g(3, -2), g(1, 1), g(most, most), g(most, 1-most), g(5, 0), g(1000, 999), g(7, -6)}
	var z []gauss
	for i, k := range s {
		z = append(z, turned(around[(3*i+i*i)%7], k))
	}
	return z
}

// junk returns points that lie on no ray, 0 among them.
func junk(n int) []gauss {
	all := []gauss{g(2, 1), g(0, 0), g(-3, 3), g(1, -most), g(0, 0), g(-1, -1)}
	var z []gauss
	for i := range n {
		z = append(z, all[i%6])
	}
	return z
}

// rayPoints returns n points of which most lie on rays, so that short sequences fit at many places.
func rayPoints(n int, seed int) []gauss {
	z := onRays(mixedPhases(n, seed))
	for i := range z {
		if (i*i+3*i+seed)%9 == 8 {
			z[i] = junk(6)[(i+seed)%6]
		}
	}
	return z
}

// someKnown returns known sequences of all lengths.
func someKnown() [][]int {
	all := allSequences(3)[1:]
	for n := 4; n <= impl.MaxLength; n++ {
		all = append(all, mixedPhases(n, 5), repeated(n%4, n))
	}
	return append(all, seq("+++-"), seq("+i-j+i-j"), seq("+++i-+-i"))
}

// notPoints returns lists that are no signals: with a number that is no Gaussian number in each place, and overlong ones.
func notPoints() [][]gauss {
	var all [][]gauss
	for _, n := range []int{1, 2, 3, 4, 8, 31, 32, 33, 47, 48} {
		for i := range n {
			for _, bad := range notGauss() {
				all = append(all, withOne(n, g(1, 0), i, bad))
			}
		}
	}
	for _, n := range []int{49, 50, 64, 65, 1000} {
		all = append(all, slices.Repeat(reals(1), n), junk(n), make([]gauss, n))
	}
	return all
}

// notIn returns numbers just and far outside from..to.
func notIn(from int, to int) []int {
	return []int{from - 1, to + 1, from - 2, to + 2, -to, -1, 2 * to, 1 << 32, 1<<32 + 1, 1<<32 + to, -1 << 32, 1 << 62, math.MaxInt, math.MaxInt - 1, math.MinInt, math.MinInt + 1, math.MinInt + 2}
}

func TestLimitsOfTheModem(t *testing.T) {
	if impl.MaxBits != 64 || impl.MaxPoints != 48 {
		t.Error("the limits are", impl.MaxBits, impl.MaxPoints)
	}
}

func TestModulateBits(t *testing.T) {
	for _, c := range []struct {
		bits string
		want string
		fine bool
	}{
		{"", "", true}, {"00", "+", true}, {"01", "i", true}, {"11", "-", true}, {"10", "j", true},
		{"001101", "+-i", true}, {"1001", "ji", true}, {"0110", "ij", true}, {"11000110", "-+ij", true},
		{"0", "", false}, {"1", "", false}, {"001", "", false}, {"00110", "", false},
	} {
		s, ok := impl.ModulateBits(bitsIn(c.bits))
		wantList(t, called("ModulateBits", c.bits), s, ok, seq(c.want), c.fine)
	}
	s, ok := impl.ModulateBits(nil)
	wantList(t, "ModulateBits of nil", s, ok, nil, true)
	for _, bits := range slices.Concat(notBits(), oddBits()) {
		s, ok := impl.ModulateBits(bits)
		wantList(t, called("ModulateBits", bits), s, ok, nil, false)
	}
}

func TestDemodulatePhases(t *testing.T) {
	for s, want := range map[string]string{
		"": "", "+": "00", "i": "01", "-": "11", "j": "10", "+-i": "001101", "ji": "1001", "+i-j": "00011110", "j-i+": "10110100",
	} {
		bits, ok := impl.DemodulatePhases(seq(s))
		wantList(t, called("DemodulatePhases", s), bits, ok, bitsIn(want), true)
	}
	bits, ok := impl.DemodulatePhases(nil)
	wantList(t, "DemodulatePhases of nil", bits, ok, nil, true)
}

// TestBitsComeBack modulates all short lists of bits and some of each length, up to the greatest one.
func TestBitsComeBack(t *testing.T) {
	var all [][]int
	for n := 0; n <= 8; n += 2 {
		all = append(all, allBits(n)...)
	}
	for n := 10; n <= impl.MaxBits; n += 2 {
		all = append(all, mixedBits(n, 0), mixedBits(n, 1), repeated(n/2%2, n))
	}
	for _, bits := range all {
		s, ok := impl.ModulateBits(bits)
		wantList(t, called("ModulateBits", bits), s, ok, phasesFor(bits), true)
		back, ok := impl.DemodulatePhases(s)
		wantList(t, called("DemodulatePhases", s), back, ok, bits, true)
	}
	for _, s := range someSequences() {
		bits, ok := impl.DemodulatePhases(s)
		wantList(t, called("DemodulatePhases", s), bits, ok, bitsFor(s), true)
		back, ok := impl.ModulateBits(bits)
		wantList(t, called("ModulateBits", bits), back, ok, s, true)
	}
}

// TestNeighboursDifferInOneBit turns phases to the next ones.
func TestNeighboursDifferInOneBit(t *testing.T) {
	for k := range 4 {
		for turn := range 4 {
			a, first := impl.DemodulatePhases([]int{k})
			b, second := impl.DemodulatePhases([]int{(k + turn) % 4})
			count, ok := impl.ErrorsOf(a, b)
			wantOne(t, called("ErrorsOf", a, b), count, ok && first && second, []int{0, 1, 2, 1}[turn], true)
		}
	}
}

func TestStepsOf(t *testing.T) {
	for s, want := range map[string]string{
		"": "", "+": "+", "i": "i", "-": "-", "j": "j", "+-i": "+-j", "+i-j": "+iii", "j-i+": "jjjj", "i++-": "ij+-", "jjjj": "j+++", "-+-+": "----",
	} {
		steps, ok := impl.StepsOf(seq(s))
		wantList(t, called("StepsOf", s), steps, ok, seq(want), true)
		back, ok := impl.FromSteps(seq(want))
		wantList(t, called("FromSteps", want), back, ok, seq(s), true)
	}
	steps, ok := impl.StepsOf(nil)
	wantList(t, "StepsOf of nil", steps, ok, nil, true)
	s, ok := impl.FromSteps(nil)
	wantList(t, "FromSteps of nil", s, ok, nil, true)
}

// TestStepsAreUndone holds steps against differences and sums of the test's own, and undoes them both ways round.
func TestStepsAreUndone(t *testing.T) {
	for _, s := range someSequences() {
		var differences, sums []int
		for i, k := range s {
			if i == 0 {
				differences = append(differences, k)
			} else {
				differences = append(differences, (k-s[i-1]+4)%4)
			}
			sums = append(sums, total(s[:i+1])%4)
		}
		steps, ok := impl.StepsOf(s)
		wantList(t, called("StepsOf", s), steps, ok, differences, true)
		back, ok := impl.FromSteps(steps)
		wantList(t, called("FromSteps", steps), back, ok, s, true)
		from, ok := impl.FromSteps(s)
		wantList(t, called("FromSteps", s), from, ok, sums, true)
		back, ok = impl.StepsOf(from)
		wantList(t, called("StepsOf", from), back, ok, s, true)
	}
}

func TestNearestPhase(t *testing.T) {
	for z, want := range map[gauss]int{
		{Re: 3, Im: -2}: 0, {Re: 2, Im: 2}: 0, {Re: -2, Im: 2}: 1, {Re: -2, Im: -2}: 2, {Re: 2, Im: -2}: 3,
		{Re: 1}: 0, {Im: 1}: 1, {Re: -1}: 2, {Im: -1}: 3, {Re: 1, Im: 1}: 0, {Re: -1, Im: 1}: 1, {Re: -1, Im: -1}: 2, {Re: 1, Im: -1}: 3,
		{Re: 2, Im: 1}: 0, {Re: 1, Im: 2}: 1, {Re: -1, Im: 2}: 1, {Re: -2, Im: 1}: 2, {Re: -2, Im: -1}: 2, {Re: -1, Im: -2}: 3, {Re: 1, Im: -2}: 3, {Re: 2, Im: -1}: 0,
		{Re: most, Im: most}: 0, {Re: -most, Im: most}: 1, {Re: -most, Im: -most}: 2, {Re: most, Im: -most}: 3,
		{Re: most - 1, Im: most}: 1, {Re: most, Im: most - 1}: 0, {Re: most, Im: 1 - most}: 0, {Re: most - 1, Im: -most}: 3,
	} {
		k, ok := impl.NearestPhase(z)
		wantOne(t, called("NearestPhase", z), k, ok, want, true)
	}
	for _, z := range append(notGauss(), g(0, 0)) {
		k, ok := impl.NearestPhase(z)
		wantOne(t, called("NearestPhase", z), k, ok, 0, false)
	}
}

// TestNearestPhases holds the nearest phases against distances, for all small points and for those near the borders, and turns them.
func TestNearestPhases(t *testing.T) {
	all := edgeGauss()
	for re := -8; re <= 8; re++ {
		for im := -8; im <= 8; im++ {
			all = append(all, g(re, im))
		}
	}
	for _, size := range []int{9, 1000, 999983, most - 1, most} {
		for less := range 3 {
			all = append(all, g(size, size-less), g(size-less, size), g(size, less-size), g(size-less, -size), g(size, less), g(-size, -less))
		}
	}
	for _, z := range all {
		for turn := range 4 {
			point := turned(z, turn)
			k, ok := impl.NearestPhase(point)
			wantOne(t, called("NearestPhase", point), k, ok, nearestTo(point), point != g(0, 0))
			first, ok := impl.NearestPhase(z)
			wantOne(t, called("NearestPhase", point), k, ok, (first+turn)%4, point != g(0, 0))
		}
	}
}

func TestDecideOf(t *testing.T) {
	for _, c := range []struct {
		z    []gauss
		want string
		fine bool
	}{
		{nil, "", true}, {[]gauss{}, "", true}, {reals(0), "", false}, {reals(5), "+", true},
		{[]gauss{g(3, -2), g(2, 2), g(-2, 2), g(-2, -2), g(2, -2)}, "++i-j", true},
		{[]gauss{g(0, 1), g(0, -1), g(-1, 0)}, "ij-", true}, {[]gauss{g(0, 1), g(0, -1), g(0, 0)}, "", false}, {[]gauss{g(0, 0), g(0, -1), g(1, 0)}, "", false},
	} {
		s, ok := impl.DecideOf(c.z)
		wantList(t, called("DecideOf", c.z), s, ok, seq(c.want), c.fine)
	}
}

// TestDecisions decides signals of all lengths, of which those of more points than a sequence has phases have none, and puts the point 0 in each place.
func TestDecisions(t *testing.T) {
	for n := range impl.MaxPoints + 2 {
		for seed := range 4 {
			s := mixedPhases(n, seed)
			for _, z := range [][]gauss{onRays(s), noisy(s)} {
				got, ok := impl.DecideOf(z)
				wantList(t, called("DecideOf", z), got, ok, s, n <= impl.MaxLength)
			}
			z := noisy(s)
			for i := range z {
				got, ok := impl.DecideOf(changed(z, i, g(0, 0)))
				wantList(t, called("DecideOf", z, i), got, ok, nil, false)
			}
			mixed := mixedNumbers(n, seed, 20)
			var want []int
			for _, point := range mixed {
				want = append(want, nearestTo(point))
			}
			got, ok := impl.DecideOf(mixed)
			wantList(t, called("DecideOf", mixed), got, ok, want, n <= impl.MaxLength && !slices.Contains(mixed, g(0, 0)))
		}
	}
}

func TestPointsOf(t *testing.T) {
	for _, c := range []struct {
		s     string
		scale int
		want  []gauss
	}{
		{"+j", 5, []gauss{g(5, 0), g(0, -5)}}, {"+i-j", 1, []gauss{g(1, 0), g(0, 1), g(-1, 0), g(0, -1)}}, {"", 7, nil}, {"ji-+", 1000, []gauss{g(0, -1000), g(0, 1000), g(-1000, 0), g(1000, 0)}},
	} {
		z, ok := impl.PointsOf(seq(c.s), c.scale)
		wantList(t, called("PointsOf", c.s, c.scale), z, ok, c.want, true)
	}
	for _, s := range someSequences() {
		for _, scale := range []int{1, 2, 3, 999, 1000} {
			z, ok := impl.PointsOf(s, scale)
			wantList(t, called("PointsOf", s, scale), z, ok, valuesOf(s, g(scale, 0)), true)
			back, ok := impl.DecideOf(z)
			wantList(t, called("DecideOf", z), back, ok, s, true)
		}
		for _, scale := range append(notIn(1, 1000), 0, -5) {
			z, ok := impl.PointsOf(s, scale)
			wantList(t, called("PointsOf", s, scale), z, ok, nil, false)
		}
	}
	for scale := range 1002 {
		z, ok := impl.PointsOf(seq("+i-j"), scale)
		wantList(t, called("PointsOf", scale), z, ok, valuesOf(seq("+i-j"), g(scale, 0)), 1 <= scale && scale <= 1000)
	}
}

func TestTurnPoints(t *testing.T) {
	z := []gauss{g(3, -2), g(0, 0), g(0, 5), g(-most, most)}
	for k, want := range [][]gauss{
		z, {g(2, 3), g(0, 0), g(-5, 0), g(-most, -most)}, {g(-3, 2), g(0, 0), g(0, -5), g(most, -most)}, {g(-2, -3), g(0, 0), g(5, 0), g(most, most)},
	} {
		got, ok := impl.TurnPoints(z, k)
		wantList(t, called("TurnPoints", z, k), got, ok, want, true)
	}
	for n := range impl.MaxPoints + 3 {
		for _, z := range [][]gauss{mixedNumbers(n, 0, 9), mixedNumbers(n, 1, most), slices.Repeat([]gauss{g(most, -most)}, n), junk(n)} {
			fine := n <= impl.MaxPoints
			for k := range 4 {
				got, ok := impl.TurnPoints(z, k)
				wantList(t, called("TurnPoints", z, k), got, ok, turnedPoints(z, k), fine)
				back, ok := impl.TurnPoints(turnedPoints(z, k), (4-k)%4)
				wantList(t, called("TurnPoints back", z, k), back, ok, z, fine)
			}
			for _, k := range notPhases() {
				got, ok := impl.TurnPoints(z, k)
				wantList(t, called("TurnPoints", z, k), got, ok, nil, false)
			}
		}
	}
}

func TestBestTurn(t *testing.T) {
	for _, c := range []struct {
		z     []gauss
		known string
		want  int
		fine  bool
	}{
		{nil, "", 0, true}, {reals(1), "+", 0, true}, {reals(1), "i", 1, true}, {reals(1), "-", 2, true}, {reals(1), "j", 3, true},
		{[]gauss{g(0, 5)}, "+", 3, true}, {[]gauss{g(-5, 0)}, "+", 2, true}, {[]gauss{g(0, -5)}, "+", 1, true}, {[]gauss{g(2, 2)}, "j", 3, true}, {[]gauss{g(2, -2)}, "+", 1, true},
		{reals(1, 1, 1), "+i-", 0, true}, {reals(1, 1, 1), "jji", 3, true}, {reals(1, 1), "ij", 1, true}, {reals(1, 1), "ji", 1, true}, {reals(1, 1), "j-", 2, true},
		{reals(1, 1, 1, 1), "+i-j", 0, true}, {reals(1, 1, 1, 1, 1), "j+i-j", 3, true}, {reals(1, 1, 1, 1, 1, 1), "jj--ii", 1, true},
		{reals(1, 0, 1), "+++", 0, false}, {reals(0), "+", 0, false}, {reals(1), "", 0, false}, {nil, "+", 0, false}, {reals(1, 1), "+", 0, false}, {reals(1), "++", 0, false},
	} {
		k, ok := impl.BestTurn(c.z, seq(c.known))
		wantOne(t, called("BestTurn", c.z, c.known), k, ok, c.want, c.fine)
	}
}

// bestTurn counts for each turn how many points have the nearest phase of a known sequence.
func bestTurn(z []gauss, known []int) int {
	best, greatest := 0, -1
	for k := range 4 {
		count := 0
		for i, point := range z {
			if nearestTo(turned(point, k)) == known[i] {
				count++
			}
		}
		if count > greatest {
			best, greatest = k, count
		}
	}
	return best
}

// TestBestTurns counts for signals of all lengths, with the point 0 in each place and known sequences of other lengths.
func TestBestTurns(t *testing.T) {
	for n := range impl.MaxPoints + 1 {
		for seed := range 12 {
			z := mixedNumbers(n, seed, 30)
			known := mixedPhases(n, seed)
			if seed%2 == 0 {
				z = turnedPoints(noisy(known), seed/2)
			}
			fine := n <= impl.MaxLength && !slices.Contains(z, g(0, 0))
			k, ok := impl.BestTurn(z, known)
			wantOne(t, called("BestTurn", z, known), k, ok, bestTurn(z, known), fine)
			for i := range z {
				k, ok := impl.BestTurn(changed(z, i, g(0, 0)), known)
				wantOne(t, called("BestTurn with 0", z, known, i), k, ok, 0, false)
				k, ok = impl.BestTurn(z, known[:i])
				wantOne(t, called("BestTurn", z, known[:i]), k, ok, 0, false)
				k, ok = impl.BestTurn(z[:i], known)
				wantOne(t, called("BestTurn", z[:i], known), k, ok, 0, false)
			}
		}
	}
	for _, known := range someKnown() {
		for k := range 4 {
			got, ok := impl.BestTurn(turnedPoints(noisy(known), k), known)
			wantOne(t, called("BestTurn of it turned by", k, known), got, ok, (4-k)%4, true)
		}
	}
	for _, known := range sequencesOf(5) {
		got, ok := impl.BestTurn(reals(1, 2, 3, 4, 5), known)
		wantOne(t, called("BestTurn", known), got, ok, bestTurn(reals(1, 2, 3, 4, 5), known), true)
	}
}

// wantFrames holds FindFrame and AllFrames against the places that are wanted.
func wantFrames(t *testing.T, z []gauss, known []int, want []int) {
	t.Helper()
	all, ok := impl.AllFrames(z, known)
	wantList(t, called("AllFrames", z, known), all, ok, want, true)
	place, ok := impl.FindFrame(z, known)
	wantOne(t, called("FindFrame", z, known), place, ok, append(want, -1)[0], len(want) > 0)
}

func TestFrames(t *testing.T) {
	for _, c := range []struct {
		z     []gauss
		known string
		want  []int
	}{
		{nil, "+", nil}, {reals(1), "+", []int{0}}, {reals(1), "j", []int{0}}, {reals(-most), "i", []int{0}}, {reals(0), "+", nil}, {[]gauss{g(1, 1)}, "+", nil}, {[]gauss{g(0, 3)}, "-", []int{0}},
		{reals(1), "++", nil}, {reals(1, 2), "++", []int{0}}, {reals(1, -2), "++", nil}, {reals(1, -2), "+-", []int{0}}, {reals(1, -2), "ij", []int{0}}, {reals(1, -2), "-+", []int{0}}, {reals(1, -2), "+i", nil},
		{[]gauss{g(2, 0), g(0, 7)}, "+i", []int{0}}, {[]gauss{g(2, 0), g(0, 7)}, "j+", []int{0}}, {[]gauss{g(2, 0), g(0, 7)}, "i+", nil}, {[]gauss{g(2, 0), g(0, -7)}, "i+", []int{0}},
		{[]gauss{g(2, 0), g(1, 7)}, "+i", nil}, {[]gauss{g(2, 1), g(0, 7)}, "+i", nil}, {[]gauss{g(2, 0), g(0, 0)}, "++", nil}, {[]gauss{g(0, 0), g(2, 0)}, "++", nil},
		{reals(1, 1, 1, 1), "++", []int{0, 1, 2}}, {reals(1, 1, 0, 1, 1), "++", []int{0, 3}}, {reals(1, 1, 0, 1, 1), "+", []int{0, 1, 3, 4}}, {reals(0, 0, 0, 5), "i", []int{3}},
		{reals(1, 2, -3, -1, -4, 5), "++-", []int{0, 3}}, {reals(1, 2, -3, -1, -4, 5), "++--", []int{0}}, {reals(1, 2, -3, -1, -4, 5), "+++", []int{2}}, {reals(1, 2, -3, -1, -4, 5), "++++", nil},
		{reals(1, 2, -3, -1, -4, 5), "++---+", []int{0}}, {reals(1, 2, -3, -1, -4, 5), "++---++", nil},
	} {
		wantFrames(t, c.z, seq(c.known), c.want)
	}
}

// TestFramesOfAllLengths looks for known sequences of all lengths in signals of all lengths, that are turned in all ways.
func TestFramesOfAllLengths(t *testing.T) {
	for n := range impl.MaxPoints + 1 {
		for i, known := range someKnown() {
			for _, z := range [][]gauss{rayPoints(n, i), onRays(repeated(i%4, n)), onRays(rising(n)), mixedNumbers(n, i, 1)} {
				wantFrames(t, turnedPoints(z, i%4), known, framesIn(z, known))
			}
		}
	}
}

// TestFramesOfDifferentSizes gives each point of a frame sizes up to the limit, and then moves it off its ray, to 0 or to another ray.
func TestFramesOfDifferentSizes(t *testing.T) {
	for _, known := range someKnown() {
		for k := range 4 {
			z := turnedPoints(onRays(known), k)
			wantFrames(t, z, known, []int{0})
			for i := range z {
				for _, other := range []gauss{g(0, 0), plus(z[i], turned(g(0, 1), k+known[i])), plus(z[i], turned(g(0, -1), k+known[i])), turned(z[i], 1), turned(z[i], 2), turned(z[i], 3)} {
					moved := changed(z, i, other)
					if len(known) > 1 || rayOf(other) < 0 {
						wantFrames(t, moved, known, nil)
					} else {
						wantFrames(t, moved, known, []int{0})
					}
				}
			}
		}
	}
}

func TestSendFrame(t *testing.T) {
	for _, c := range []struct {
		known string
		bits  string
		scale int
		want  string
		fine  bool
	}{
		{"++-", "1001", 5, "++-i-", true}, {"+", "", 1, "+", true}, {"j", "", 1000, "j", true}, {"i", "00", 3, "ii", true}, {"i", "01", 3, "i-", true}, {"i", "11", 3, "ij", true}, {"i", "10", 3, "i+", true},
		{"+i", "001101", 7, "+iij+", true}, {"-j", "01010101", 2, "-j+i-j", true},
		{"", "", 1, "", false}, {"", "00", 1, "", false}, {"+", "0", 1, "", false}, {"+", "101", 1, "", false}, {"+", "02", 1, "", false}, {"+", "00", 0, "", false}, {"+", "00", 1001, "", false},
	} {
		z, ok := impl.SendFrame(seq(c.known), bitsIn(c.bits), c.scale)
		wantList(t, called("SendFrame", c.known, c.bits, c.scale), z, ok, valuesOf(seq(c.want), g(c.scale, 0)), c.fine)
	}
	z, ok := impl.SendFrame(seq("-"), nil, 9)
	wantList(t, "SendFrame without bits", z, ok, reals(-9), true)
	z, ok = impl.SendFrame(nil, nil, 9)
	wantList(t, "SendFrame without a known sequence", z, ok, nil, false)
}

// TestFramesAreSent sends known sequences of all lengths with all numbers of bits, of which some are more than a signal has points for.
func TestFramesAreSent(t *testing.T) {
	for _, known := range someKnown() {
		for n := range impl.MaxBits + 3 {
			bits := mixedBits(n, len(known))
			fine := n%2 == 0 && n <= 64 && len(known)+n/2 <= 48
			var want []gauss
			if n%2 == 0 {
				want = valuesOf(framePhases(known, bits), g(1+13*n, 0))
			}
			z, ok := impl.SendFrame(known, bits, 1+13*n)
			wantList(t, called("SendFrame", known, bits, 1+13*n), z, ok, want, fine)
		}
		for _, scale := range append(notIn(1, 1000), 0, -1000) {
			z, ok := impl.SendFrame(known, bitsIn("0111"), scale)
			wantList(t, called("SendFrame", known, scale), z, ok, nil, false)
		}
	}
	for _, known := range sequencesOf(2) {
		for n := 0; n <= 6; n += 2 {
			for _, bits := range allBits(n) {
				z, ok := impl.SendFrame(known, bits, 1000)
				wantList(t, called("SendFrame", known, bits), z, ok, valuesOf(framePhases(known, bits), g(1000, 0)), true)
			}
		}
	}
}

func TestReceiveFrame(t *testing.T) {
	frame := []gauss{g(5, 0), g(5, 0), g(-5, 0), g(0, 5), g(-5, 0)} // "++-" and the bits 1 0 0 1
	for _, c := range []struct {
		z     []gauss
		known string
		n     int
		want  string
		fine  bool
	}{
		{frame, "++-", 4, "1001", true}, {frame, "++-", 2, "10", true}, {frame, "++-", 0, "", true}, {frame, "++-", 6, "", false}, {frame, "++-", 64, "", false},
		{frame, "++-", 1, "", false}, {frame, "++-", 3, "", false}, {frame, "++-", -2, "", false}, {frame, "++-", 66, "", false},
		{frame, "--+", 4, "1001", true}, {frame, "++", 4, "1110", true}, {frame, "+", 8, "00111001", true}, {frame, "+", 10, "", false}, {frame, "-j+", 2, "01", false},
		{frame, "++-i-", 0, "", true}, {frame, "++-i-", 2, "", false}, {frame, "++-i-+", 0, "", false}, {frame, "+++", 0, "", false}, {frame, "-i-", 0, "", true}, {frame, "-i-", 2, "", false},
		{frame, "", 0, "", false}, {frame, "", 4, "", false}, {nil, "+", 0, "", false}, {nil, "", 0, "", false},
		{reals(0, 3), "+", 0, "", true}, {reals(0, 3), "+", 2, "", false}, {reals(0, 3, -2), "+", 2, "11", true}, {reals(3, 0), "+", 0, "", true}, {reals(3, 0), "+", 2, "", false}, {reals(3, 1, 0), "+", 2, "00", true}, {reals(3, 1, 0), "+", 4, "", false},
		{[]gauss{g(3, 0), g(2, 2), g(-2, 2), g(-2, -2), g(2, -2), g(1, 1)}, "+", 10, "0001010101", true},
		{[]gauss{g(3, 1), g(2, 2), g(0, 9), g(3, -7), g(-3, -2)}, "j", 4, "1110", true},
		{reals(1, 1, -1, 1, 1), "++", 4, "1111", true}, {reals(1, 1, -1, 1, 1), "++", 6, "111100", true}, {reals(1, 1, -1, 1, 1), "++", 8, "", false},
	} {
		bits, ok := impl.ReceiveFrame(c.z, seq(c.known), c.n)
		wantList(t, called("ReceiveFrame", c.z, c.known, c.n), bits, ok, bitsIn(c.want), c.fine)
	}
}

// wantFound holds what is found in a signal, turned in all ways, against the place of a frame and its bits. It makes texts of the calls only if one is wrong, as there are many.
func wantFound(t *testing.T, z []gauss, known []int, place int, bits []int) {
	t.Helper()
	for k := range 4 {
		signal, turns := impl.TurnPoints(z, k)
		found, finds := impl.FindFrame(signal, known)
		received, receives := impl.ReceiveFrame(signal, known, len(bits))
		count, counts := impl.ErrorsOf(bits, received)
		if !turns || !slices.Equal(signal, turnedPoints(z, k)) {
			t.Errorf("%s is %v, %v", called("TurnPoints", z, k), signal, turns)
		}
		if !finds || found != place {
			t.Errorf("%s is %v, %v and not %v", called("FindFrame", signal, known), found, finds, place)
		}
		if !receives || !slices.Equal(received, bits) || !counts || count != 0 {
			t.Errorf("%s is %v, %v and not %v", called("ReceiveFrame", signal, known, len(bits)), received, receives, bits)
		}
	}
}

// TestBitsOfFramesComeBack sends frames, lays them behind and ahead of other points, and receives them turned in all ways.
func TestBitsOfFramesComeBack(t *testing.T) {
	for i, known := range someKnown() {
		for n := 0; n <= impl.MaxBits && len(known)+n/2 <= impl.MaxPoints; n += 2 {
			bits := mixedBits(n, i)
			frame, ok := impl.SendFrame(known, bits, 1+(31*i+n)%1000)
			if !ok {
				t.Fatal("no frame of", known, bits)
			}
			room := impl.MaxPoints - len(frame)
			for _, place := range []int{0, min(1, room), room / 2, room} {
				wantFound(t, slices.Concat(junk(place), frame), known, place, bits)
				wantFound(t, slices.Concat(junk(place), frame, onRays(mixedPhases(room-place, i))), known, place, bits)
			}
		}
	}
}

// TestAllShortFrames sends all lists of few bits behind all short known sequences.
func TestAllShortFrames(t *testing.T) {
	for i, known := range allSequences(3)[1:] {
		for n := 0; n <= 6; n += 2 {
			for _, bits := range allBits(n) {
				frame, ok := impl.SendFrame(known, bits, 1000)
				if !ok {
					t.Fatal("no frame of", known, bits)
				}
				wantFound(t, slices.Concat(junk(i%7), frame), known, i%7, bits)
			}
		}
	}
}

// TestFramesWithNoise gives the points behind the known ones other sizes, and moves them as far as their nearest phase allows.
func TestFramesWithNoise(t *testing.T) {
	for i, known := range someKnown() {
		for n := 0; n <= impl.MaxBits && len(known)+n/2 <= impl.MaxPoints; n += 2 {
			bits := mixedBits(n, i)
			s := framePhases(known, bits)
			z := slices.Concat(onRays(known), noisy(s[len(known):]))
			place := (impl.MaxPoints - len(z)) * (i % 5) / 4
			wantFound(t, slices.Concat(junk(place), z), known, place, bits)
		}
	}
}

// TestReceivedBits receives from signals in which a frame may begin at several places, or nowhere, or too late, all numbers of bits and just outside.
func TestReceivedBits(t *testing.T) {
	knowns := slices.Concat(allSequences(2)[1:], [][]int{seq("+++-"), seq("++-i-")})
	for size := range impl.MaxPoints + 1 {
		for seed := range 6 {
			points := rayPoints(size, seed)
			if seed%3 == 2 {
				points = mixedNumbers(size, seed, 2)
			}
			for i, known := range knowns {
				z := turnedPoints(points, i)
				for n := -2; n <= impl.MaxBits+4; n += 1 + (n+2)%2 + seed%2 {
					want, fine := []int(nil), false
					if n >= 0 && n%2 == 0 && n <= 64 {
						want, fine = bitsBehind(z, known, n)
					}
					got, ok := impl.ReceiveFrame(z, known, n)
					if ok != fine || !slices.Equal(got, want) {
						t.Errorf("%s is %v, %v and not %v, %v", called("ReceiveFrame", z, known, n), got, ok, want, fine)
					}
				}
			}
		}
	}
}

// TestFrameWithZero puts the point 0 in each place of a frame: the bits ahead of it can be read, if the known points stay.
func TestFrameWithZero(t *testing.T) {
	for _, known := range []string{"+", "ij", "+++-", "++-i-+j"} {
		bits := mixedBits(24, 3)
		z := slices.Concat(junk(5), valuesOf(framePhases(seq(known), bits), g(6, 0)), junk(3))
		last := 5 + len(known) - 1
		for i := range z {
			for n := 0; n <= len(bits); n += 2 {
				other := changed(z, i, g(0, 0))
				want, fine := bitsBehind(other, seq(known), n)
				if places := framesIn(other, seq(known)); len(places) > 0 && places[0] == 5 && fine != (i < 5 || i > last+n/2) {
					t.Fatal("the test is wrong:", known, i, n)
				}
				got, ok := impl.ReceiveFrame(other, seq(known), n)
				wantList(t, called("ReceiveFrame with 0 at", i, known, n), got, ok, want, fine)
			}
		}
	}
}

// TestFramesOfBadNumbers asks for numbers of bits far outside.
func TestFramesOfBadNumbers(t *testing.T) {
	z := onRays(rising(impl.MaxPoints))
	for _, n := range append(notIn(0, impl.MaxBits), -64, -4, 1, 3, 63, math.MinInt+4, math.MaxInt-3, 1<<33) {
		bits, ok := impl.ReceiveFrame(z, seq("+i"), n)
		wantList(t, called("ReceiveFrame", n), bits, ok, nil, false)
	}
}

func TestErrorsOf(t *testing.T) {
	for _, c := range []struct {
		a, b string
		want int
		fine bool
	}{
		{"", "", 0, true}, {"0", "0", 0, true}, {"0", "1", 1, true}, {"1", "0", 1, true}, {"1", "1", 0, true},
		{"0110", "0011", 2, true}, {"01101", "01101", 0, true}, {"01101", "10010", 5, true}, {"000", "100", 1, true}, {"000", "001", 1, true},
		{"", "0", 0, false}, {"0", "", 0, false}, {"01", "011", 0, false}, {"2", "2", 0, false}, {"02", "00", 0, false}, {"00", "02", 0, false},
	} {
		count, ok := impl.ErrorsOf(bitsIn(c.a), bitsIn(c.b))
		wantOne(t, called("ErrorsOf", c.a, c.b), count, ok, c.want, c.fine)
	}
	count, ok := impl.ErrorsOf(nil, nil)
	wantOne(t, "ErrorsOf of nil", count, ok, 0, true)
	for _, bad := range notBits() {
		for _, other := range [][]int{bad, nil, mixedBits(len(bad), 2), repeated(0, len(bad))} {
			count, ok := impl.ErrorsOf(bad, other)
			wantOne(t, called("ErrorsOf", bad, other), count, ok, 0, false)
			count, ok = impl.ErrorsOf(other, bad)
			wantOne(t, called("ErrorsOf", other, bad), count, ok, 0, false)
		}
	}
}

// TestErrorsAreCounted counts for bits of all lengths, and for two of different ones.
func TestErrorsAreCounted(t *testing.T) {
	for n := range impl.MaxBits + 1 {
		for seed := range 5 {
			a, b := mixedBits(n, seed), mixedBits(n, 3*seed+1)
			want := 0
			for i := range a {
				if a[i] != b[i] {
					want++
				}
			}
			count, ok := impl.ErrorsOf(a, b)
			wantOne(t, called("ErrorsOf", a, b), count, ok, want, true)
			count, ok = impl.ErrorsOf(a, a)
			wantOne(t, called("ErrorsOf", a, a), count, ok, 0, true)
			for m := range n {
				count, ok = impl.ErrorsOf(a, b[:m])
				wantOne(t, called("ErrorsOf", a, b[:m]), count, ok, 0, false)
				count, ok = impl.ErrorsOf(b[:m], a)
				wantOne(t, called("ErrorsOf", b[:m], a), count, ok, 0, false)
			}
		}
	}
}

// keyPhases returns the n phases that come from a key, which is kept as eight bits, the lowest one first.
func keyPhases(key int, n int) []int {
	var bits [8]bool
	for i := range bits {
		bits[i] = key>>i&1 == 1
	}
	var s []int
	for range n {
		k := 0
		if bits[0] {
			k++
		}
		if bits[1] {
			k += 2
		}
		s = append(s, k)
		odd := bits[0]
		copy(bits[:], bits[1:])
		bits[7] = false
		for _, i := range []int{3, 4, 5, 7} { // 184 is 8, 16, 32 and 128 together
			bits[i] = bits[i] != odd
		}
	}
	return s
}

func TestMixPhases(t *testing.T) {
	for _, c := range []struct {
		s    string
		key  int
		want string
		fine bool
	}{
		{"++++++++", 1, "i++-jji+", true}, {"iiii", 1, "-iij", true}, {"+++++", 255, "jjji-", true}, {"+++", 2, "-i+", true}, {"+++", 4, "+-i", true}, {"+++", 128, "+++", true}, {"jjj", 184, "jji", true},
		{"", 1, "", true}, {"", 255, "", true}, {"", 0, "", false}, {"", 256, "", false}, {"+", 0, "", false}, {"+", 256, "", false}, {"+", -1, "", false}, {"+", 257, "", false},
	} {
		s, ok := impl.MixPhases(seq(c.s), c.key)
		wantList(t, called("MixPhases", c.s, c.key), s, ok, seq(c.want), c.fine)
	}
	s, ok := impl.MixPhases(nil, 7)
	wantList(t, "MixPhases of nil", s, ok, nil, true)
}

// TestMixingIsUndone mixes sequences of all lengths with all keys and just outside, and undoes it by conjugates.
func TestMixingIsUndone(t *testing.T) {
	fine := func(s []int, ok bool) []int {
		t.Helper()
		if !ok {
			t.Fatal("a move should succeed")
		}
		return s
	}
	for n := range impl.MaxLength + 1 {
		for key := -2; key <= 258; key++ {
			s := mixedPhases(n, key+2)
			valid := 1 <= key && key <= 255
			var want []int
			if valid {
				for i, k := range keyPhases(key, n) {
					want = append(want, (s[i]+k)%4)
				}
			}
			mixed, ok := impl.MixPhases(s, key)
			wantList(t, called("MixPhases", s, key), mixed, ok, want, valid)
			if valid {
				back := fine(impl.ConjugateOf(fine(impl.MixPhases(fine(impl.ConjugateOf(mixed)), key))))
				wantList(t, called("MixPhases undone", s, key), back, true, s, true)
			}
		}
		for _, key := range notIn(1, 255) {
			mixed, ok := impl.MixPhases(rising(n), key)
			wantList(t, called("MixPhases", n, key), mixed, ok, nil, false)
		}
	}
}

// TestKeysDiffer mixes the longest sequence: no two keys give it the same phases.
func TestKeysDiffer(t *testing.T) {
	var all [][]int
	for key := 1; key <= 255; key++ {
		s, ok := impl.MixPhases(repeated(0, impl.MaxLength), key)
		if !ok {
			t.Fatal("no phases of the key", key)
		}
		all = append(all, s)
	}
	slices.SortFunc(all, slices.Compare[[]int])
	if count := len(slices.CompactFunc(all, slices.Equal[[]int])); count != 255 {
		t.Error("the keys give", count, "different sequences")
	}
}

// TestNoSequencesToSend gives lists that are no sequences to each function that requires one.
func TestNoSequencesToSend(t *testing.T) {
	for _, bad := range badPhases() {
		for name, f := range map[string]func([]int) ([]int, bool){
			"DemodulatePhases": impl.DemodulatePhases, "StepsOf": impl.StepsOf, "FromSteps": impl.FromSteps,
			"MixPhases": func(s []int) ([]int, bool) { return impl.MixPhases(s, 1) },
		} {
			got, ok := f(bad)
			wantList(t, called(name, bad), got, ok, nil, false)
		}
		z, ok := impl.PointsOf(bad, 1)
		wantList(t, called("PointsOf", bad), z, ok, nil, false)
		for _, bits := range [][]int{nil, bitsIn("01")} {
			z, ok := impl.SendFrame(bad, bits, 1)
			wantList(t, called("SendFrame", bad, bits), z, ok, nil, false)
		}
		for _, z := range [][]gauss{onRays(repeated(0, min(len(bad), impl.MaxPoints))), onRays(rising(impl.MaxPoints))} {
			k, ok := impl.BestTurn(z, bad)
			wantOne(t, called("BestTurn", z, bad), k, ok, 0, false)
			place, ok := impl.FindFrame(z, bad)
			wantOne(t, called("FindFrame", z, bad), place, ok, 0, false)
			all, ok := impl.AllFrames(z, bad)
			wantList(t, called("AllFrames", z, bad), all, ok, nil, false)
			bits, ok := impl.ReceiveFrame(z, bad, 0)
			wantList(t, called("ReceiveFrame", z, bad), bits, ok, nil, false)
		}
	}
}

// TestNoKnownPhases looks for frames behind no phases.
func TestNoKnownPhases(t *testing.T) {
	for _, known := range [][]int{nil, {}} {
		for n := range impl.MaxPoints + 1 {
			z := onRays(rising(n))
			place, ok := impl.FindFrame(z, known)
			wantOne(t, called("FindFrame", z, known), place, ok, 0, false)
			all, ok := impl.AllFrames(z, known)
			wantList(t, called("AllFrames", z, known), all, ok, nil, false)
			bits, ok := impl.ReceiveFrame(z, known, n%5*2)
			wantList(t, called("ReceiveFrame", z, known), bits, ok, nil, false)
			sent, ok := impl.SendFrame(known, mixedBits(n%5*2, n), 1)
			wantList(t, called("SendFrame", known), sent, ok, nil, false)
		}
	}
}

// TestNoPoints gives lists that are no signals to each function that requires one.
func TestNoPoints(t *testing.T) {
	for _, bad := range notPoints() {
		s, ok := impl.DecideOf(bad)
		wantList(t, called("DecideOf", bad), s, ok, nil, false)
		z, ok := impl.TurnPoints(bad, 1)
		wantList(t, called("TurnPoints", bad), z, ok, nil, false)
		for _, known := range [][]int{{0}, {0, 0}, repeated(0, min(len(bad), impl.MaxLength)), repeated(0, len(bad)), nil} {
			k, ok := impl.BestTurn(bad, known)
			wantOne(t, called("BestTurn", bad, known), k, ok, 0, false)
			place, ok := impl.FindFrame(bad, known)
			wantOne(t, called("FindFrame", bad, known), place, ok, 0, false)
			all, ok := impl.AllFrames(bad, known)
			wantList(t, called("AllFrames", bad, known), all, ok, nil, false)
			bits, ok := impl.ReceiveFrame(bad, known, 0)
			wantList(t, called("ReceiveFrame", bad, known), bits, ok, nil, false)
		}
	}
}

// TestNoBitsToSend gives lists that are no bits, or not an even number of them, behind known sequences.
func TestNoBitsToSend(t *testing.T) {
	for _, bits := range slices.Concat(notBits(), oddBits()) {
		for _, known := range [][]int{{0}, seq("+++-"), rising(16)} {
			z, ok := impl.SendFrame(known, bits, 5)
			wantList(t, called("SendFrame", known, bits), z, ok, nil, false)
		}
	}
}

// TestSendersEnd looks for what is left of the goroutines behind many calls: each of them is to end, wherever a frame is.
func TestSendersEnd(t *testing.T) {
	before := runtime.NumGoroutine()
	for n := range impl.MaxPoints + 1 {
		for _, known := range someKnown() {
			for _, z := range [][]gauss{onRays(repeated(1, n)), onRays(rising(n)), junk(n)} {
				impl.FindFrame(z, known)
				impl.AllFrames(z, known)
				impl.ReceiveFrame(z, known, 2)
			}
		}
	}
	for range 1000 {
		if runtime.NumGoroutine() <= before {
			return
		}
		time.Sleep(time.Millisecond)
	}
	t.Error(runtime.NumGoroutine()-before, "goroutines are left")
}

// TestListsOfOneMemory gives both lists of a call the same memory, or parts of it that overlap.
func TestListsOfOneMemory(t *testing.T) {
	memory := mixedBits(60, 9)
	before := slices.Clone(memory)
	for n := 1; n <= 20; n++ {
		for from := range 20 {
			known, bits := memory[:n], memory[from:from+2*n]
			z, ok := impl.SendFrame(known, bits, 3)
			wantList(t, called("SendFrame", known, bits), z, ok, valuesOf(framePhases(known, bits), g(3, 0)), true)
			received, ok := impl.ReceiveFrame(z, known, 2*n)
			wantList(t, called("ReceiveFrame", z, known), received, ok, bits, true)
			clear(received)
			a, b := memory[:n], memory[from:from+n]
			want := 0
			for i := range a {
				want += (a[i] + b[i]) % 2
			}
			count, ok := impl.ErrorsOf(a, b)
			wantOne(t, called("ErrorsOf", a, b), count, ok, want, true)
			wantList(t, "the memory", memory, true, before, true)
		}
	}
}
