package tests

import (
	"math"
	"slices"
	"testing"

	"loop.example/g01177/impl"
)

// The tests of promise 5: chapter 5, transforms.

// productOfDigits sums the products of the digits of two places.
func productOfDigits(x int, y int, base int) int {
	sum := 0
	for x > 0 && y > 0 {
		sum += (x % base) * (y % base)
		x, y = x/base, y/base
	}
	return sum
}

// addedAt adds two places digit by digit, in the base 4.
func addedAt(x int, y int) int {
	if x == 0 && y == 0 {
		return 0
	}
	return 4*addedAt(x/4, y/4) + (x%4+y%4)%4
}

// placeBack returns the place that is added to x to make 0.
func placeBack(x int) int {
	for y := range 16 {
		if addedAt(x, y) == 0 {
			return y
		}
	}
	return -1
}

// transformed sums for each place all numbers, that at x turned as many times as a product of digits tells.
func transformed(z []gauss, turn int, base int) []gauss {
	sums := make([]gauss, len(z))
	for w := range z {
		for x := range z {
			sums[w] = plus(sums[w], turned(z[x], turn*productOfDigits(w, x, base)))
		}
	}
	return sums
}

// forward is the transform, and walsh Walsh's.
func forward(z []gauss) []gauss {
	return transformed(z, -1, 4)
}

func walsh(z []gauss) []gauss {
	return transformed(z, 2, 2)
}

// divided returns numbers divided by how many there are, or tells that one cannot be.
func divided(z []gauss) ([]gauss, bool) {
	var all []gauss
	for _, number := range z {
		if number.Re%len(z) != 0 || number.Im%len(z) != 0 {
			return nil, false
		}
		all = append(all, g(number.Re/len(z), number.Im/len(z)))
	}
	return all, true
}

// stepped sums for each place w the numbers at the places that differ from it in the digit of a weight alone.
func stepped(z []gauss, weight int) []gauss {
	sums := make([]gauss, len(z))
	for w := range z {
		digit := w / weight % 4
		for d := range 4 {
			sums[w] = plus(sums[w], turned(z[w+(d-digit)*weight], -digit*d))
		}
	}
	return sums
}

func product(a gauss, b gauss) gauss {
	return g(a.Re*b.Re-a.Im*b.Im, a.Re*b.Im+a.Im*b.Re)
}

// convolution sums the products of all pairs of numbers whose places add up to p.
func convolution(a []gauss, b []gauss) []gauss {
	sums := make([]gauss, len(a))
	for p := range sums {
		for x := range a {
			for y := range b {
				if addedAt(x, y) == p {
					sums[p] = plus(sums[p], product(a[x], b[y]))
				}
			}
		}
	}
	return sums
}

// correlation sums the products of the number of a at a place and the conjugate of that of b at a place that is u less.
func correlation(a []gauss, b []gauss) []gauss {
	sums := make([]gauss, len(a))
	for u := range sums {
		for x := range a {
			for y := range b {
				if addedAt(y, u) == x {
					sums[u] = plus(sums[u], product(a[x], conjugate(b[y])))
				}
			}
		}
	}
	return sums
}

// eachTimes multiplies place by place.
func eachTimes(a []gauss, b []gauss) []gauss {
	var all []gauss
	for x := range a {
		all = append(all, product(a[x], b[x]))
	}
	return all
}

func conjugates(z []gauss) []gauss {
	var all []gauss
	for _, number := range z {
		all = append(all, conjugate(number))
	}
	return all
}

// areGauss tells whether all parts are within the limit.
func areGauss(z []gauss) bool {
	for _, number := range z {
		if max(number.Re, -number.Re, number.Im, -number.Im) > most {
			return false
		}
	}
	return true
}

// wants returns the numbers that a result should have, and whether the call should succeed with them.
func wants(z []gauss) ([]gauss, bool) {
	return z, areGauss(z)
}

// reals makes numbers without an imaginary part.
func reals(parts ...int) []gauss {
	var z []gauss
	for _, re := range parts {
		z = append(z, g(re, 0))
	}
	return z
}

// valuesOf returns the values of phases, times a size.
func valuesOf(s []int, size gauss) []gauss {
	var z []gauss
	for _, k := range s {
		z = append(z, turned(size, k))
	}
	return z
}

// mixedNumbers returns n numbers without a simple order, with parts in -size..size, other ones for each seed.
func mixedNumbers(n int, seed int, size int) []gauss {
	state := uint64(1000*n + 7*seed + size)
	part := func() int {
		state = state*6364136223846793005 + 1442695040888963407
		return int(state>>33)%(2*size+1) - size
	}
	z := make([]gauss, n)
	for x := range z {
		z[x] = g(part(), part())
	}
	return z
}

// withOne returns n numbers that are all alike but for one.
func withOne(n int, other gauss, x int, z gauss) []gauss {
	all := slices.Repeat([]gauss{other}, n)
	all[x] = z
	return all
}

// changed returns a list with one number exchanged.
func changed[T any](list []T, x int, value T) []T {
	list = slices.Clone(list)
	list[x] = value
	return list
}

// someNumbers returns lists of n Gaussian numbers: small and great ones, and some whose transforms are at the limit or just over it.
func someNumbers(n int) [][]gauss {
	all := [][]gauss{slices.Repeat([]gauss{{}}, n)}
	for seed := range 6 {
		for _, size := range []int{1, 3, 20, 1000, most / n, most/n + 1, most} {
			all = append(all, mixedNumbers(n, seed, size))
		}
	}
	for _, size := range []gauss{g(1, 0), g(0, 1), g(most, 0), g(0, -most), g(-most, most)} {
		for x := range n {
			all = append(all, withOne(n, g(0, 0), x, size), withOne(n, g(0, 0), x, turned(size, x)))
		}
		all = append(all, slices.Repeat([]gauss{size}, n))
	}
	for _, more := range []int{0, 1} {
		for w := range n {
			for turn := range 4 {
				peak := transformed(withOne(n, g(0, 0), w, turned(g(most/n, 0), turn)), 1, 4)
				all = append(all, changed(peak, w, plus(peak[w], turned(g(0, more), w))), changed(peak, 0, plus(peak[0], turned(g(more, 0), turn))))
			}
		}
	}
	return gaussLists(all)
}

// gaussLists leaves out all lists that have a number that is no Gaussian number.
func gaussLists(all [][]gauss) [][]gauss {
	return slices.DeleteFunc(all, func(z []gauss) bool { return !areGauss(z) })
}

// someTransforms returns lists of n Gaussian numbers that are transforms, and lists near them, of which most are none.
func someTransforms(n int, transform func([]gauss) []gauss) [][]gauss {
	all := someNumbers(n)
	for _, z := range someNumbers(n) {
		t := transform(z)
		if !areGauss(t) {
			continue
		}
		all = append(all, t)
		for i, more := range []gauss{g(1, 0), g(0, 1), g(n, 0), g(0, -n), g(n/2, 0), g(-1, -1)} {
			x := (5*i + len(all)) % n
			all = append(all, changed(t, x, plus(t[x], more)))
			y := (x + 1 + len(all)%n) % n
			all = append(all, changed(changed(t, x, plus(t[x], more)), y, plus(t[y], turned(more, 2))))
		}
	}
	for x := range n {
		for _, less := range []int{1, 2, n / 2, n, 2 * n} {
			all = append(all, withOne(n, g(most, -most), x, g(most-less, -most)), withOne(n, g(most, -most), x, g(most, less-most)))
		}
	}
	return gaussLists(all)
}

// signalLengths and walshLengths have the numbers of places of the two transforms.
func signalLengths() []int {
	return []int{1, 4, 16}
}

func walshLengths() []int {
	return []int{1, 2, 4, 8, 16, 32}
}

// badLengths returns all lengths near those that are good, and some far away.
func badLengths(good []int) []int {
	var all []int
	for n := range 70 {
		if !slices.Contains(good, n) {
			all = append(all, n)
		}
	}
	return append(all, 127, 128, 255, 256, 257, 1000, 1024, 4096)
}

// badNumbers returns lists of wrong lengths, and lists with a number that is no Gaussian number.
func badNumbers(good []int) [][]gauss {
	all := [][]gauss{nil}
	for _, n := range badLengths(good) {
		all = append(all, make([]gauss, n), withOne(max(n, 1), g(1, 0), 0, g(2, 1))[:n])
	}
	for _, n := range good {
		for x := range n {
			for _, bad := range notGauss() {
				all = append(all, withOne(n, g(0, 0), x, bad), withOne(n, g(1, -1), x, bad))
			}
		}
	}
	return all
}

// badSequences returns lists that are no sequences of 1, 4 or 16 phases.
func badSequences() [][]int {
	all := [][]int{nil}
	for _, n := range badLengths(signalLengths()) {
		all = append(all, repeated(0, n), rising(n))
	}
	for _, n := range signalLengths() {
		for x := range n {
			for _, bad := range notPhases() {
				all = append(all, changed(rising(n), x, bad), changed(repeated(0, n), x, bad))
			}
		}
	}
	return all
}

// mixedPhases returns n phases without a simple order.
func mixedPhases(n int, seed int) []int {
	return slices.Concat(mixed(n, seed)...)[:n]
}

// flatOfFour returns all flat sequences of 4 phases.
func flatOfFour() [][]int {
	return slices.DeleteFunc(sequencesOf(4), func(s []int) bool { return !hasNorms(s) })
}

// flatSequences returns flat sequences of 16 phases: products of the two digits in any order, turned by a phase for one of them, and sums of two flat ones of 4 phases.
func flatSequences() [][]int {
	var all [][]int
	for i, order := range orders(4) {
		for seed := range 8 {
			turns := mixedPhases(4, 10*i+seed)
			s, over := make([]int, 16), make([]int, 16)
			for a := range 4 {
				for b := range 4 {
					s[4*a+b] = (a*order[b] + turns[b]) % 4
					over[4*b+a] = s[4*a+b]
				}
			}
			all = append(all, s, over)
		}
	}
	short := flatOfFour()
	for i, a := range short {
		b := short[(7*i+3)%len(short)]
		s := make([]int, 16)
		for x := range s {
			s[x] = (a[x/4] + b[x%4]) % 4
		}
		all = append(all, s)
	}
	return all
}

// signalSequences returns all sequences of 1 and 4 phases, flat ones of 16, ones that differ from these in one phase, and others.
func signalSequences() [][]int {
	all := slices.Concat(sequencesOf(1), sequencesOf(4), flatSequences())
	for i, s := range flatSequences() {
		all = append(all, changed(s, i%16, (s[i%16]+1+i%3)%4))
	}
	for seed := range 50 {
		all = append(all, mixedPhases(16, seed))
	}
	for k := range 4 {
		all = append(all, repeated(k, 16))
		for w := range 16 {
			wave := make([]int, 16)
			for x := range wave {
				wave[x] = (productOfDigits(w, x, 4) + k) % 4
			}
			all = append(all, wave)
		}
	}
	return all
}

// hasNorms tells whether all norms of the transform are the length.
func hasNorms(s []int) bool {
	for _, z := range forward(valuesOf(s, g(1, 0))) {
		if norm(z) != len(s) {
			return false
		}
	}
	return true
}

func TestTransformOf(t *testing.T) {
	for _, c := range []struct {
		z    []gauss
		want []gauss
	}{
		{reals(1, 0, 0, 0), reals(1, 1, 1, 1)},
		{reals(0, 1, 0, 0), []gauss{g(1, 0), g(0, -1), g(-1, 0), g(0, 1)}},
		{reals(0, 0, 1, 0), reals(1, -1, 1, -1)},
		{reals(0, 0, 0, 1), []gauss{g(1, 0), g(0, 1), g(-1, 0), g(0, -1)}},
		{reals(1, 2, 3, 4), []gauss{g(10, 0), g(-2, 2), g(-2, 0), g(-2, -2)}},
		{[]gauss{g(0, 1), g(1, 0), g(0, 0), g(0, 0)}, []gauss{g(1, 1), g(0, 0), g(-1, 1), g(0, 2)}},
		{[]gauss{g(5, -7)}, []gauss{g(5, -7)}},
		{[]gauss{g(most, -most)}, []gauss{g(most, -most)}},
		{reals(0, 0, 0, 0), reals(0, 0, 0, 0)},
		{reals(most, 0, 0, 0), reals(most, most, most, most)},
		{reals(most/4, most/4, most/4, most/4), reals(most, 0, 0, 0)},
		{reals(-most/4, most/4, -most/4, most/4), reals(0, 0, -most, 0)},
		{reals(most-1, 1, 0, 0), []gauss{g(most, 0), g(most-1, -1), g(most-2, 0), g(most-1, 1)}},
		{withOne(16, g(0, 0), 0, g(1, 0)), slices.Repeat(reals(1), 16)},
		{slices.Repeat(reals(most/16), 16), withOne(16, g(0, 0), 0, g(most, 0))},
		{withOne(16, g(0, 0), 1, g(1, 0)), slices.Repeat([]gauss{g(1, 0), g(0, -1), g(-1, 0), g(0, 1)}, 4)},
		{withOne(16, g(0, 0), 8, g(0, 1)), slices.Concat(slices.Repeat([]gauss{g(0, 1)}, 4), slices.Repeat([]gauss{g(0, -1)}, 4), slices.Repeat([]gauss{g(0, 1)}, 4), slices.Repeat([]gauss{g(0, -1)}, 4))},
	} {
		z, ok := impl.TransformOf(c.z)
		wantList(t, called("TransformOf", c.z), z, ok, c.want, true)
	}
	for _, z := range [][]gauss{
		reals(most/4, most/4, most/4, most/4+1), reals(most, 1, 0, 0), reals(0, 0, most, 1), reals(most, most, most, most), reals(-most, 0, 0, -1),
		{g(0, most), g(0, 1), g(0, 0), g(0, 0)}, {g(0, -most), g(0, 0), g(0, -1), g(0, 0)}, {g(most, 0), g(0, 0), g(0, 0), g(0, 1)},
		withOne(16, g(most/16, 0), 9, g(most/16+1, 0)), withOne(16, g(0, -most/16), 0, g(0, -most/16-1)), slices.Repeat(reals(most), 16),
	} {
		got, ok := impl.TransformOf(z)
		wantList(t, called("TransformOf", z), got, ok, nil, false)
	}
}

func TestTransformsAreSums(t *testing.T) {
	succeed, fail := 0, 0
	for _, n := range signalLengths() {
		for _, z := range someNumbers(n) {
			want, fine := wants(forward(z))
			got, ok := impl.TransformOf(z)
			wantList(t, called("TransformOf", z), got, ok, want, fine)
			if fine {
				succeed++
			} else {
				fail++
			}
		}
	}
	if succeed < 200 || fail < 100 {
		t.Error("there should be more of both:", succeed, fail)
	}
}

func TestTransformBack(t *testing.T) {
	for _, c := range []struct {
		z    []gauss
		want []gauss
	}{
		{reals(1, 1, 1, 1), reals(1, 0, 0, 0)},
		{[]gauss{g(0, 0), g(2, -2), g(0, 0), g(2, 2)}, reals(1, 1, -1, -1)},
		{[]gauss{g(10, 0), g(-2, 2), g(-2, 0), g(-2, -2)}, reals(1, 2, 3, 4)},
		{reals(4, 0, 0, 0), reals(1, 1, 1, 1)},
		{reals(0, 4, 0, 0), []gauss{g(1, 0), g(0, 1), g(-1, 0), g(0, -1)}},
		{[]gauss{g(3, -9)}, []gauss{g(3, -9)}},
		{reals(most, most, most, most), reals(most, 0, 0, 0)},
		{slices.Repeat([]gauss{g(-most, most)}, 16), withOne(16, g(0, 0), 0, g(-most, most))},
		{withOne(16, g(0, 0), 0, g(most, 0)), slices.Repeat(reals(most/16), 16)},
		{reals(1, 0, 0, 0), nil},
		{reals(0, 0, 0, 1), nil},
		{reals(2, 0, 2, 1), nil},
		{reals(2, 0, 0, 0), nil},
		{reals(1, 1, 1, -1), nil},
		{reals(5, 1, 1, 0), nil},
		{[]gauss{g(4, 1), g(0, 1), g(0, 1), g(0, 0)}, nil},
		{withOne(16, g(0, 0), 0, g(8, 0)), nil},
		{withOne(16, g(0, 0), 15, g(4, 0)), nil},
		{withOne(16, g(0, 0), 3, g(0, most-8)), nil},
	} {
		z, ok := impl.TransformBack(c.z)
		wantList(t, called("TransformBack", c.z), z, ok, c.want, c.want != nil)
	}
}

func TestWalshOf(t *testing.T) {
	for _, c := range []struct {
		z    []gauss
		want []gauss
	}{
		{[]gauss{g(2, -3)}, []gauss{g(2, -3)}},
		{[]gauss{g(1, 2), g(3, -5)}, []gauss{g(4, -3), g(-2, 7)}},
		{reals(1, 2, 3, 4), reals(10, -2, -4, 0)},
		{reals(0, 0, 0, 1), reals(1, -1, -1, 1)},
		{reals(0, 0, 0, 0, 0, 0, 0, 1), reals(1, -1, -1, 1, -1, 1, 1, -1)},
		{reals(1, 1, 1, -1), reals(2, 2, 2, -2)},
		{reals(most, 0), reals(most, most)},
		{reals(most/2, most/2), reals(most, 0)},
		{reals(most/2, most/2+1), nil},
		{reals(most, 1), nil},
		{reals(most, -1), nil},
		{[]gauss{g(0, most), g(0, -1)}, nil},
		{slices.Repeat(reals(most/32), 32), withOne(32, g(0, 0), 0, g(most, 0))},
		{withOne(32, g(most/32, 0), 31, g(most/32+1, 0)), nil},
		{slices.Repeat([]gauss{g(most, -most)}, 32), nil},
		{withOne(32, g(0, 0), 0, g(most, most)), slices.Repeat([]gauss{g(most, most)}, 32)},
	} {
		z, ok := impl.WalshOf(c.z)
		wantList(t, called("WalshOf", c.z), z, ok, c.want, c.want != nil)
	}
	for _, n := range walshLengths() {
		for _, z := range someNumbers(n) {
			want, fine := wants(walsh(z))
			got, ok := impl.WalshOf(z)
			wantList(t, called("WalshOf", z), got, ok, want, fine)
		}
	}
}

func TestWalshBack(t *testing.T) {
	for _, c := range []struct {
		z    []gauss
		want []gauss
	}{
		{[]gauss{g(2, -3)}, []gauss{g(2, -3)}},
		{[]gauss{g(4, -3), g(-2, 7)}, []gauss{g(1, 2), g(3, -5)}},
		{reals(10, -2, -4, 0), reals(1, 2, 3, 4)},
		{reals(2, 2, 2, -2), reals(1, 1, 1, -1)},
		{reals(1, 0), nil},
		{[]gauss{g(0, 0), g(0, 1)}, nil},
		{reals(1, 1, 1, -1), nil},
		{reals(2, 0, 0, 0), nil},
		{slices.Repeat([]gauss{g(most, -most)}, 32), withOne(32, g(0, 0), 0, g(most, -most))},
		{withOne(32, g(most, 0), 0, g(most-32, 0)), append(reals(most-1), slices.Repeat(reals(-1), 31)...)},
		{withOne(32, g(most, 0), 0, g(most-1, 0)), nil},
		{withOne(32, g(most, 0), 0, g(most-16, 0)), nil},
		{withOne(32, g(0, -most), 31, g(0, 2-most)), nil},
	} {
		z, ok := impl.WalshBack(c.z)
		wantList(t, called("WalshBack", c.z), z, ok, c.want, c.want != nil)
	}
}

// transformKind is a transform that is undone, with a test's own way to it and back.
type transformKind struct {
	name    string
	lengths []int
	there   func([]gauss) ([]gauss, bool)
	back    func([]gauss) ([]gauss, bool)
	sums    func([]gauss) []gauss
	turn    int
	base    int
}

func transformKinds() []transformKind {
	return []transformKind{
		{"TransformOf", signalLengths(), impl.TransformOf, impl.TransformBack, forward, 1, 4},
		{"WalshOf", walshLengths(), impl.WalshOf, impl.WalshBack, walsh, 2, 2},
	}
}

// TestTransformsAreUndone goes there and back, and back and there.
func TestTransformsAreUndone(t *testing.T) {
	for _, kind := range transformKinds() {
		for _, n := range kind.lengths {
			found, none := 0, 0
			for _, z := range someTransforms(n, kind.sums) {
				want, fine := divided(transformed(z, kind.turn, kind.base))
				got, ok := kind.back(z)
				wantList(t, called("back from "+kind.name, z), got, ok, want, fine && areGauss(want))
				if !ok {
					none++
					continue
				}
				found++
				again, ok := kind.there(got)
				wantList(t, called(kind.name, got), again, ok, z, true)
			}
			if found < 50 || none < 50 && n > 1 {
				t.Error("there should be more of both for", kind.name, n, ":", found, none)
			}
			for _, z := range someNumbers(n) {
				there, ok := kind.there(z)
				if !ok {
					continue
				}
				got, ok := kind.back(there)
				wantList(t, called("back from "+kind.name, there), got, ok, z, true)
			}
		}
	}
}

// TestWalshTwice checks that Walsh's transform of itself has as many times the numbers as there are.
func TestWalshTwice(t *testing.T) {
	for _, n := range walshLengths() {
		for _, z := range someNumbers(n) {
			there, ok := impl.WalshOf(z)
			if !ok {
				continue
			}
			var want []gauss
			for _, number := range z {
				want = append(want, product(number, g(n, 0)))
			}
			got, ok := impl.WalshOf(there)
			wantList(t, called("WalshOf twice", z), got, ok, want, areGauss(want))
		}
	}
}

// notDigitPlaces returns numbers that are no digit places of n numbers.
func notDigitPlaces(n int) []int {
	all := []int{2, -1, 3, 4, 15, 16, -2, 31, 32, 63, 64, 1000, 1 << 32, 1<<32 + 1, -1 << 32, math.MaxInt, math.MinInt, math.MinInt + 1}
	if n <= 4 {
		all = append(all, 1)
	}
	if n <= 1 {
		all = append(all, 0)
	}
	return all
}

func TestTransformStep(t *testing.T) {
	counting := make([]gauss, 16)
	first, other := make([]gauss, 16), make([]gauss, 16)
	for x := range counting {
		counting[x] = g(x, 0)
		first[x] = []gauss{g(16*(x/4)+6, 0), g(-2, 2), g(-2, 0), g(-2, -2)}[x%4]
		other[x] = []gauss{g(24+4*(x%4), 0), g(-8, 8), g(-8, 0), g(-8, -8)}[x/4]
	}
	for _, c := range []struct {
		z     []gauss
		place int
		want  []gauss
	}{
		{counting, 0, first},
		{counting, 1, other},
		{reals(1, 2, 3, 4), 0, []gauss{g(10, 0), g(-2, 2), g(-2, 0), g(-2, -2)}},
		{reals(most, 0, 0, 0), 0, reals(most, most, most, most)},
		{reals(most, 0, 1, 0), 0, nil},
		{withOne(16, g(0, 0), 7, g(0, most)), 0, slices.Concat(reals(0, 0, 0, 0), []gauss{g(0, most), g(-most, 0), g(0, -most), g(most, 0)}, reals(0, 0, 0, 0, 0, 0, 0, 0))},
		{changed(withOne(16, g(0, 0), 15, g(most, 0)), 14, g(1, 0)), 0, nil},
		{changed(withOne(16, g(0, 0), 15, g(most, 0)), 11, g(1, 0)), 1, nil},
		{changed(withOne(16, g(0, 0), 15, g(most, 0)), 14, g(most, 0)), 1, slices.Concat(reals(0, 0, most, most), []gauss{{}, {}, g(0, most), g(0, most)}, reals(0, 0, -most, -most), []gauss{{}, {}, g(0, -most), g(0, -most)})},
	} {
		z, ok := impl.TransformStep(c.z, c.place)
		wantList(t, called("TransformStep", c.z, c.place), z, ok, c.want, c.want != nil)
	}
}

// TestStepsAreTheTransform does all steps in both orders, where each stays within the limit: a transform that does has such steps alone.
func TestStepsAreTheTransform(t *testing.T) {
	for digits, n := range signalLengths() {
		for _, z := range someNumbers(n) {
			for _, bad := range notDigitPlaces(n) {
				got, ok := impl.TransformStep(z, bad)
				wantList(t, called("TransformStep", z, bad), got, ok, nil, false)
			}
			want, fine := impl.TransformOf(z)
			for _, order := range orders(digits) {
				got, ok := z, true
				for _, place := range order {
					if ok {
						next, inLimit := wants(stepped(got, []int{1, 4}[place]))
						made, done := impl.TransformStep(got, place)
						wantList(t, called("TransformStep", got, place), made, done, next, inLimit)
						got, ok = made, done
					}
				}
				wantList(t, called("all steps", z, order), got, ok, want, fine)
			}
		}
	}
}

func TestTransformOfSequence(t *testing.T) {
	for text, want := range map[string][]gauss{
		"++--": {g(0, 0), g(2, -2), g(0, 0), g(2, 2)},
		"+++-": {g(2, 0), g(0, -2), g(2, 0), g(0, 2)},
		"++++": {g(4, 0), g(0, 0), g(0, 0), g(0, 0)},
		"+i-j": {g(0, 0), g(4, 0), g(0, 0), g(0, 0)},
		"+j-i": {g(0, 0), g(0, 0), g(0, 0), g(4, 0)},
		"iiii": {g(0, 4), g(0, 0), g(0, 0), g(0, 0)},
		"+":    {g(1, 0)},
		"i":    {g(0, 1)},
		"-":    {g(-1, 0)},
		"j":    {g(0, -1)},
	} {
		z, ok := impl.TransformOfSequence(seq(text))
		wantList(t, called("TransformOfSequence", text), z, ok, want, true)
	}
	for k := range 4 {
		z, ok := impl.TransformOfSequence(repeated(k, 16))
		wantList(t, called("TransformOfSequence of 16 phases", k), z, ok, withOne(16, g(0, 0), 0, turned(g(16, 0), k)), true)
	}
	for _, s := range signalSequences() {
		values := valuesOf(s, g(1, 0))
		z, ok := impl.TransformOfSequence(s)
		wantList(t, called("TransformOfSequence", s), z, ok, forward(values), true)
		back, ok := impl.TransformBack(z)
		wantList(t, called("TransformBack", z), back, ok, values, true)
	}
}

func TestEnergyOf(t *testing.T) {
	const greatest = 1000000000000
	for _, c := range []struct {
		z    []gauss
		want int
		fine bool
	}{
		{[]gauss{g(3, -4)}, 25, true},
		{reals(0, 0, 0, 0), 0, true},
		{[]gauss{g(0, 0)}, 0, true},
		{[]gauss{g(1, 0), g(0, 2), g(-3, 0), g(1, -1)}, 16, true},
		{reals(most), greatest, true},
		{[]gauss{g(0, -most)}, greatest, true},
		{[]gauss{g(most, 1)}, 0, false},
		{[]gauss{g(-most, most)}, 0, false},
		{[]gauss{g(600000, 800000)}, greatest, true},
		{[]gauss{g(600001, 800000)}, 0, false},
		{reals(most, 0, 0, 0), greatest, true},
		{[]gauss{g(0, 0), g(0, 0), g(0, most), g(0, 0)}, greatest, true},
		{reals(most, 0, 0, 1), 0, false},
		{[]gauss{g(0, 1), g(most, 0), g(0, 0), g(0, 0)}, 0, false},
		{reals(most-1, 0, 0, 0), greatest - 2*most + 1, true},
		{reals(500000, -500000, 500000, 500000), greatest, true},
		{[]gauss{g(500000, 0), g(0, 500000), g(0, -500000), g(-500001, 0)}, 0, false},
		{slices.Repeat([]gauss{g(0, 250000)}, 16), greatest, true},
		{withOne(16, g(250000, 0), 15, g(250000, 1)), 0, false},
		{withOne(16, g(250000, 0), 0, g(250000, -1)), 0, false},
		{slices.Repeat([]gauss{g(most, most)}, 16), 0, false},
	} {
		energy, ok := impl.EnergyOf(c.z)
		wantOne(t, called("EnergyOf", c.z), energy, ok, c.want, c.fine)
	}
	for _, n := range signalLengths() {
		for _, z := range someNumbers(n) {
			want := 0
			for _, number := range z {
				want += norm(number)
			}
			energy, ok := impl.EnergyOf(z)
			wantOne(t, called("EnergyOf", z), energy, ok, want, want <= greatest)
		}
	}
}

// TestEnergiesAreKept checks that the energy of the transform is as many times that of the signal as there are places.
func TestEnergiesAreKept(t *testing.T) {
	kept := 0
	for _, n := range signalLengths() {
		for _, z := range someNumbers(n) {
			there, ok := impl.TransformOf(z)
			after, fine := impl.EnergyOf(there)
			if !ok || !fine {
				continue
			}
			kept++
			before, ok := impl.EnergyOf(z)
			wantOne(t, called("EnergyOf, as many times as there are places,", z), n*before, ok, after, true)
		}
	}
	if kept < 100 {
		t.Error("there should be more energies:", kept)
	}
}

func TestConvolveOf(t *testing.T) {
	for _, c := range []struct {
		a, b []gauss
		want []gauss
	}{
		{reals(1, 2, 3, 4), reals(1, 0, 0, 0), reals(1, 2, 3, 4)},
		{reals(1, 2, 3, 4), reals(0, 1, 0, 0), reals(4, 1, 2, 3)},
		{reals(1, 2, 3, 4), reals(0, 0, 0, 2), reals(4, 6, 8, 2)},
		{reals(0, 1, 0, 0), []gauss{g(0, 0), g(0, 1), g(1, 0), g(0, 0)}, []gauss{g(0, 0), g(0, 0), g(0, 1), g(1, 0)}},
		{[]gauss{g(2, 1)}, []gauss{g(3, -1)}, []gauss{g(7, 1)}},
		{withOne(16, g(0, 0), 3, g(1, 0)), withOne(16, g(0, 0), 1, g(5, 0)), withOne(16, g(0, 0), 0, g(5, 0))},
		{withOne(16, g(0, 0), 7, g(1, 0)), withOne(16, g(0, 0), 14, g(0, 1)), withOne(16, g(0, 0), 1, g(0, 1))},
		{reals(1000), reals(1000), reals(most)},
		{reals(1000), reals(1001), nil},
		{reals(-1000), reals(1001), nil},
		{[]gauss{g(0, 1001)}, reals(1000), nil},
		{[]gauss{g(0, -1001)}, reals(1000), nil},
		{[]gauss{g(1000, 1000)}, []gauss{g(1000, 1000)}, nil},
		{[]gauss{g(most, most)}, []gauss{g(most, -most)}, nil},
		{reals(1000, 0, 0, 0), reals(0, 0, 0, 1001), nil},
		{reals(0, 1000, 0, 0), reals(0, 0, 0, 1001), nil},
		{slices.Repeat([]gauss{g(most, -most)}, 16), slices.Repeat([]gauss{g(most, most)}, 16), nil},
		{slices.Repeat([]gauss{g(most, -most)}, 16), slices.Repeat(reals(most, -most), 8), slices.Repeat([]gauss{{}}, 16)},
		{reals(most, most, most, most), reals(999999, -333333, -333333, -333332), reals(most, most, most, most)},
	} {
		z, ok := impl.ConvolveOf(c.a, c.b)
		wantList(t, called("ConvolveOf", c.a, c.b), z, ok, c.want, c.want != nil)
		z, ok = impl.ConvolveOf(c.b, c.a)
		wantList(t, called("ConvolveOf", c.b, c.a), z, ok, c.want, c.want != nil)
	}
}

func TestCorrelateOf(t *testing.T) {
	for _, c := range []struct {
		a, b []gauss
		want []gauss
	}{
		{reals(1, 2, 3, 4), reals(1, 0, 0, 0), reals(1, 2, 3, 4)},
		{reals(1, 2, 3, 4), reals(0, 1, 0, 0), reals(2, 3, 4, 1)},
		{reals(1, 0, 0, 0), reals(1, 2, 3, 4), reals(1, 4, 3, 2)},
		{reals(1, 0, 0, 0), []gauss{g(0, 0), g(0, 1), g(0, 0), g(0, 0)}, []gauss{g(0, 0), g(0, 0), g(0, 0), g(0, -1)}},
		{[]gauss{g(0, 1), g(0, 0), g(0, 0), g(0, 0)}, reals(0, 1, 0, 0), []gauss{g(0, 0), g(0, 0), g(0, 0), g(0, 1)}},
		{[]gauss{g(2, 1)}, []gauss{g(3, -1)}, []gauss{g(5, 5)}},
		{[]gauss{g(3, 4)}, []gauss{g(3, 4)}, reals(25)},
		{withOne(16, g(0, 0), 4, g(1, 0)), withOne(16, g(0, 0), 1, g(5, 0)), withOne(16, g(0, 0), 7, g(5, 0))},
		{withOne(16, g(0, 0), 1, g(1, 0)), withOne(16, g(0, 0), 14, g(0, 1)), withOne(16, g(0, 0), 7, g(0, -1))},
		{reals(1000), reals(1000), reals(most)},
		{reals(1000), reals(1001), nil},
		{reals(1001), reals(-1000), nil},
		{[]gauss{g(0, 1001)}, reals(1000), nil},
		{reals(1000), []gauss{g(0, 1001)}, nil},
		{[]gauss{g(1000, 1000)}, []gauss{g(1000, -1000)}, nil},
		{reals(0, 0, 1000, 0), reals(0, 0, 0, 1001), nil},
		{slices.Repeat([]gauss{g(most, -most)}, 16), slices.Repeat([]gauss{g(most, -most)}, 16), nil},
		{slices.Repeat([]gauss{g(0, most)}, 4), []gauss{g(0, 999999), g(0, -333333), g(0, -333333), g(0, -333332)}, reals(most, most, most, most)},
	} {
		z, ok := impl.CorrelateOf(c.a, c.b)
		wantList(t, called("CorrelateOf", c.a, c.b), z, ok, c.want, c.want != nil)
	}
}

// manyPairs returns two lists of n numbers at a time, some of which have products too great for small floating numbers that cancel.
func manyPairs(n int) [][2][]gauss {
	var all [][2][]gauss
	for seed := range 40 {
		size := []int{1, 5, 100, 1000 / n, 1000}[seed%5]
		all = append(all, [2][]gauss{mixedNumbers(n, seed, size), mixedNumbers(n, 100+seed, size)})
	}
	for w := range n {
		wave := make([]int, n)
		for x := range wave {
			wave[x] = productOfDigits(w, x, 4) % 4
		}
		a := valuesOf(wave, g(999983, 0))
		other := mixedNumbers(n, w, most/n)
		var sum gauss
		for _, z := range other {
			sum = plus(sum, z)
		}
		for _, left := range []gauss{g(0, 0), g(1, 0), g(0, -1), g(1, 1), g(2, 0)} {
			last := plus(other[0], plus(left, g(-sum.Re, -sum.Im)))
			fitting := changed(other, 0, last)
			var b, c []gauss
			for x, z := range fitting {
				b = append(b, turned(z, wave[x]))
				c = append(c, turned(z, -wave[x]))
			}
			all = append(all, [2][]gauss{a, b}, [2][]gauss{b, a}, [2][]gauss{a, c}, [2][]gauss{fitting, a})
		}
	}
	for _, size := range []gauss{g(most, 0), g(0, -most), g(most, most), g(1, 0), g(0, 1)} {
		for x := range n {
			one := withOne(n, g(0, 0), x, size)
			all = append(all, [2][]gauss{one, mixedNumbers(n, x, 1)}, [2][]gauss{mixedNumbers(n, x, 1), one}, [2][]gauss{one, one})
		}
	}
	return all
}

// TestProductsAreSums holds both kinds of products against sums, and their transforms against the products of transforms, place by place.
func TestProductsAreSums(t *testing.T) {
	for _, n := range signalLengths() {
		succeed, fail, multiply := 0, 0, 0
		for _, pair := range manyPairs(n) {
			for _, c := range []struct {
				name string
				do   func([]gauss, []gauss) ([]gauss, bool)
				sums []gauss
				turn func([]gauss) []gauss
			}{
				{"ConvolveOf", impl.ConvolveOf, convolution(pair[0], pair[1]), slices.Clone[[]gauss]},
				{"CorrelateOf", impl.CorrelateOf, correlation(pair[0], pair[1]), conjugates},
			} {
				want, fine := wants(c.sums)
				got, ok := c.do(pair[0], pair[1])
				wantList(t, called(c.name, pair), got, ok, want, fine)
				if !fine {
					fail++
					continue
				}
				succeed++
				first, ok := impl.TransformOf(pair[0])
				second, both := impl.TransformOf(pair[1])
				there, made := impl.TransformOf(got)
				if ok && both && made {
					multiply++
					wantList(t, called("TransformOf of "+c.name, pair), there, made, eachTimes(first, c.turn(second)), true)
				}
			}
		}
		if succeed < 50 || fail < 10 || multiply < 20 {
			t.Error("there should be more of each for", n, ":", succeed, fail, multiply)
		}
	}
}

func TestMoveOf(t *testing.T) {
	counting := make([]gauss, 16)
	for x := range counting {
		counting[x] = g(x, -x)
	}
	at := func(places ...int) []gauss {
		var z []gauss
		for _, x := range places {
			z = append(z, counting[x])
		}
		return z
	}
	for _, c := range []struct {
		z    []gauss
		by   int
		want []gauss
	}{
		{at(0, 1, 2, 3), 1, at(1, 2, 3, 0)},
		{at(0, 1, 2, 3), 3, at(3, 0, 1, 2)},
		{counting, 0, counting},
		{counting, 1, at(1, 2, 3, 0, 5, 6, 7, 4, 9, 10, 11, 8, 13, 14, 15, 12)},
		{counting, 4, at(4, 5, 6, 7, 8, 9, 10, 11, 12, 13, 14, 15, 0, 1, 2, 3)},
		{counting, 15, at(15, 12, 13, 14, 3, 0, 1, 2, 7, 4, 5, 6, 11, 8, 9, 10)},
		{[]gauss{g(most, -most)}, 0, []gauss{g(most, -most)}},
		{[]gauss{g(1, 2)}, 1, nil},
		{at(0, 1, 2, 3), 4, nil},
		{at(0, 1, 2, 3), -1, nil},
		{counting, 16, nil},
	} {
		z, ok := impl.MoveOf(c.z, c.by)
		wantList(t, called("MoveOf", c.z, c.by), z, ok, c.want, c.want != nil)
	}
}

// TestSignalsAreMoved checks all moves, that they add up and are undone, and that they turn the transform as waves do.
func TestSignalsAreMoved(t *testing.T) {
	for _, n := range signalLengths() {
		for _, z := range someNumbers(n) {
			for _, bad := range notIndices(n) {
				got, ok := impl.MoveOf(z, bad)
				wantList(t, called("MoveOf", z, bad), got, ok, nil, false)
			}
			there, isThere := impl.TransformOf(z)
			for by := range n {
				want, turns := make([]gauss, n), make([]gauss, n)
				for x := range z {
					want[x] = z[addedAt(x, by)]
					turns[x] = turned(g(1, 0), productOfDigits(x, by, 4))
				}
				got, ok := impl.MoveOf(z, by)
				wantList(t, called("MoveOf", z, by), got, ok, want, true)
				back, ok := impl.MoveOf(got, placeBack(by))
				wantList(t, called("MoveOf back from", z, by), back, ok, z, true)
				twice, ok := impl.MoveOf(got, n-1)
				once, fine := impl.MoveOf(z, addedAt(by, n-1))
				wantList(t, called("MoveOf twice", z, by), twice, ok, once, fine)
				if isThere {
					after, ok := impl.TransformOf(got)
					wantList(t, called("TransformOf of MoveOf", z, by), after, ok, eachTimes(there, turns), true)
				}
			}
		}
	}
}

func TestWaveOf(t *testing.T) {
	for _, c := range []struct {
		n, place int
		want     string
	}{
		{1, 0, "+"},
		{4, 0, "++++"},
		{4, 1, "+i-j"},
		{4, 2, "+-+-"},
		{4, 3, "+j-i"},
		{16, 0, "++++++++++++++++"},
		{16, 1, "+i-j+i-j+i-j+i-j"},
		{16, 3, "+j-i+j-i+j-i+j-i"},
		{16, 4, "++++iiii----jjjj"},
		{16, 5, "+i-ji-j+-j+ij+i-"},
		{16, 15, "+j-ij-i+-i+ji+j-"},
	} {
		s, ok := impl.WaveOf(c.n, c.place)
		wantList(t, called("WaveOf", c.n, c.place), s, ok, seq(c.want), true)
	}
	for _, n := range signalLengths() {
		for _, bad := range notIndices(n) {
			s, ok := impl.WaveOf(n, bad)
			wantList(t, called("WaveOf", n, bad), s, ok, nil, false)
		}
	}
	for _, n := range slices.Concat(badLengths(signalLengths()), []int{-1, -4, -16, math.MinInt, math.MaxInt, 1 << 32, 1<<32 + 4, 1 << 62}) {
		for _, place := range []int{0, 1, 3, n - 1, -1, 15, math.MaxInt, math.MinInt} {
			s, ok := impl.WaveOf(n, place)
			wantList(t, called("WaveOf", n, place), s, ok, nil, false)
		}
	}
}

// TestWavesOfAllPlaces checks that waves multiply as their places add, and that the transform tells the place of each.
func TestWavesOfAllPlaces(t *testing.T) {
	for _, n := range signalLengths() {
		for w := range n {
			want := make([]int, n)
			for x := range want {
				want[x] = productOfDigits(w, x, 4) % 4
			}
			s, ok := impl.WaveOf(n, w)
			wantList(t, called("WaveOf", n, w), s, ok, want, true)
			there, ok := impl.TransformOfSequence(s)
			wantList(t, called("TransformOfSequence of WaveOf", n, w), there, ok, withOne(n, g(0, 0), w, g(n, 0)), true)
			for v := range n {
				other, _ := impl.WaveOf(n, v)
				both, ok := impl.ProductOf(s, other)
				sum, fine := impl.WaveOf(n, addedAt(v, w))
				wantList(t, called("ProductOf of WaveOf", n, v, w), both, ok, sum, fine)
			}
		}
	}
}

func TestIsFlat(t *testing.T) {
	for text, want := range map[string]bool{
		"+":                true,
		"i":                true,
		"-":                true,
		"j":                true,
		"+++-":             true,
		"+-++":             true,
		"+i+j":             true,
		"iiij":             true,
		"j+ji":             false,
		"++--":             false,
		"++++":             false,
		"+i-j":             false,
		"+i+i":             false,
		"ii-+":             false,
		"++++++++++++++++": false,
		"++++iiii----jjjj": false,
		"+++++i-j+-+-+j-i": true,
		"+++++i-j+-+-+j--": false,
		"+++-+++-+++----+": true,
		"+++-i+-ij+ji+-+-": false,
	} {
		is, ok := impl.IsFlat(seq(text))
		wantOne(t, called("IsFlat", text), is, ok, want, true)
	}
}

func TestDualOf(t *testing.T) {
	for text, want := range map[string]string{
		"+":                "+",
		"i":                "i",
		"-":                "-",
		"j":                "j",
		"+++-":             "+j+i",
		"+j+i":             "+-++",
		"+i+j":             "+++-",
		"iiij":             "i+i-",
		"+++++i-j+-+-+j-i": "+++++j-i+-+-+i-j",
		"++++":             "",
		"++--":             "",
		"+i-j":             "",
		"ii-+":             "",
		"++++++++++++++++": "",
		"+++++i-j+-+-+j--": "",
		"iiiiiiiiiiiiiiii": "",
	} {
		s, ok := impl.DualOf(seq(text))
		wantList(t, called("DualOf", text), s, ok, seq(want), want != "")
	}
}

// TestFlatSequencesHaveDuals checks that just flat sequences have duals, which are flat and whose duals lead back.
func TestFlatSequencesHaveDuals(t *testing.T) {
	flat, others := 0, 0
	for _, s := range signalSequences() {
		want := hasNorms(s)
		is, ok := impl.IsFlat(s)
		wantOne(t, called("IsFlat", s), is, ok, want, true)
		dual, ok := impl.DualOf(s)
		if !want {
			others++
			wantList(t, called("DualOf", s), dual, ok, nil, false)
			continue
		}
		flat++
		root := map[int]int{1: 1, 4: 2, 16: 4}[len(s)]
		wantList(t, called("values of DualOf", s), valuesOf(dual, g(root, 0)), ok, forward(valuesOf(s, g(1, 0))), true)
		is, ok = impl.IsFlat(dual)
		wantOne(t, called("IsFlat of DualOf", s), is, ok, true, true)
		back := make([]int, len(s))
		for x := range back {
			back[x] = s[placeBack(x)]
		}
		twice, ok := impl.DualOf(dual)
		wantList(t, called("DualOf twice", s), twice, ok, back, true)
	}
	if flat < 400 || others < 600 {
		t.Error("there should be more of both:", flat, others)
	}
}

// TestFlatSequencesHaveFourPhases checks that no flat sequence of 1, 4 or 16 phases can have a transform with other phases than four: no other Gaussian number has such a norm.
func TestFlatSequencesHaveFourPhases(t *testing.T) {
	for root, n := range map[int]int{1: 1, 2: 4, 4: 16} {
		found := 0
		for re := -n; re <= n; re++ {
			for im := -n; im <= n; im++ {
				if norm(g(re, im)) == n {
					found++
				}
			}
		}
		if found != 4 || norm(g(root, 0)) != n {
			t.Error("there are", found, "Gaussian numbers with the norm", n)
		}
	}
}

// TestFlatSequencesCorrelate checks that a sequence is flat just if its products with itself, moved by any place but 0, add up to 0.
func TestFlatSequencesCorrelate(t *testing.T) {
	for _, s := range signalSequences() {
		values := valuesOf(s, g(1, 0))
		sums, ok := impl.CorrelateOf(values, values)
		is, fine := impl.IsFlat(s)
		if !ok || !fine || is != slices.Equal(sums, withOne(len(s), g(0, 0), 0, g(len(s), 0))) {
			t.Error("IsFlat", s, "is", is, "and CorrelateOf it and itself", sums)
		}
	}
}

func TestCountFlat(t *testing.T) {
	for n, want := range map[int]int{1: 4, 4: 32} {
		count, ok := impl.CountFlat(n)
		wantOne(t, called("CountFlat", n), count, ok, want, true)
		found := 0
		for _, s := range sequencesOf(n) {
			if hasNorms(s) {
				found++
			}
		}
		wantOne(t, called("CountFlat by search", n), found, true, count, true)
	}
	for _, n := range []int{0, 2, 3, 5, 6, 7, 8, 15, 16, 17, 31, 32, 33, 64, -1, -2, -4, -16, 1 << 32, 1<<32 + 1, 1<<32 + 4, 1 << 62, math.MaxInt, math.MinInt, math.MinInt + 1} {
		count, ok := impl.CountFlat(n)
		wantOne(t, called("CountFlat", n), count, ok, 0, false)
	}
}

// TestNoSignals gives each function of signals lists that are none.
func TestNoSignals(t *testing.T) {
	for _, bad := range badNumbers(signalLengths()) {
		z, ok := impl.TransformOf(bad)
		wantList(t, called("TransformOf", bad), z, ok, nil, false)
		z, ok = impl.TransformBack(bad)
		wantList(t, called("TransformBack", bad), z, ok, nil, false)
		for _, place := range []int{0, 1, 2, -1, math.MaxInt, math.MinInt} {
			z, ok = impl.TransformStep(bad, place)
			wantList(t, called("TransformStep", bad, place), z, ok, nil, false)
			z, ok = impl.MoveOf(bad, place)
			wantList(t, called("MoveOf", bad, place), z, ok, nil, false)
		}
		energy, ok := impl.EnergyOf(bad)
		wantOne(t, called("EnergyOf", bad), energy, ok, 0, false)
		others := [][]gauss{bad, nil, make([]gauss, len(bad)), {g(1, 0)}, reals(1, 2, 3, 4), slices.Repeat(reals(0), 16)}
		for _, other := range others {
			for _, pair := range [][2][]gauss{{bad, other}, {other, bad}} {
				z, ok = impl.ConvolveOf(pair[0], pair[1])
				wantList(t, called("ConvolveOf", pair), z, ok, nil, false)
				z, ok = impl.CorrelateOf(pair[0], pair[1])
				wantList(t, called("CorrelateOf", pair), z, ok, nil, false)
			}
		}
	}
	for _, bad := range badNumbers(walshLengths()) {
		z, ok := impl.WalshOf(bad)
		wantList(t, called("WalshOf", bad), z, ok, nil, false)
		z, ok = impl.WalshBack(bad)
		wantList(t, called("WalshBack", bad), z, ok, nil, false)
	}
}

// TestSignalsOfDifferentLengths gives both products two signals that have not as many places.
func TestSignalsOfDifferentLengths(t *testing.T) {
	for _, n := range signalLengths() {
		for _, m := range signalLengths() {
			for _, size := range []int{0, 1} {
				a, b := mixedNumbers(n, 1, size), mixedNumbers(m, 2, size)
				z, ok := impl.ConvolveOf(a, b)
				wantList(t, called("ConvolveOf", a, b), z, ok, convolution(a, mixedNumbers(n, 2, size)), n == m)
				z, ok = impl.CorrelateOf(a, b)
				wantList(t, called("CorrelateOf", a, b), z, ok, correlation(a, mixedNumbers(n, 2, size)), n == m)
			}
		}
	}
}

// TestNoSequencesToTransform gives each function of a sequence lists that are none of 1, 4 or 16 phases.
func TestNoSequencesToTransform(t *testing.T) {
	for _, bad := range badSequences() {
		z, ok := impl.TransformOfSequence(bad)
		wantList(t, called("TransformOfSequence", bad), z, ok, nil, false)
		is, ok := impl.IsFlat(bad)
		wantOne(t, called("IsFlat", bad), is, ok, false, false)
		dual, ok := impl.DualOf(bad)
		wantList(t, called("DualOf", bad), dual, ok, nil, false)
	}
}

// TestSignalsOfOneMemory gives both products the same memory, or parts of it that overlap.
func TestSignalsOfOneMemory(t *testing.T) {
	memory := mixedNumbers(40, 0, 100)
	before := slices.Clone(memory)
	for _, n := range signalLengths() {
		for from := range 20 {
			a, b := memory[:n], memory[from:from+n]
			for name, c := range map[string]struct {
				do   func([]gauss, []gauss) ([]gauss, bool)
				sums func([]gauss, []gauss) []gauss
			}{"ConvolveOf": {impl.ConvolveOf, convolution}, "CorrelateOf": {impl.CorrelateOf, correlation}} {
				z, ok := c.do(a, b)
				wantList(t, called(name, a, b), z, ok, c.sums(a, b), true)
				clear(z)
				wantList(t, called(name, a, b)+", the memory", memory, true, before, true)
			}
		}
	}
}
