package tests

import (
	"math"
	"slices"
	"testing"

	"loop.example/g01177/impl"
)

// The tests of promise 6: chapter 6, perfect sequences and arrays.

// arraySum sums over all two places that are u rows and v columns apart, modulo the numbers of rows and of columns.
func arraySum(m [][]int, u int, v int) gauss {
	var sum gauss
	for i, row := range m {
		for j, k := range row {
			for r := range m {
				for c := range row {
					if (r-i-u)%len(m) == 0 && (c-j-v)%len(row) == 0 {
						sum = plus(sum, turned(g(1, 0), m[r][c]-k))
					}
				}
			}
		}
	}
	return sum
}

// hasPeakAlone tells whether all own correlations of an array but that at 0, 0 are 0.
func hasPeakAlone(m [][]int) bool {
	for u := range m {
		for v := range m[0] {
			if u+v > 0 && arraySum(m, u, v) != g(0, 0) {
				return false
			}
		}
	}
	return true
}

// vanishes tells whether all own periodic correlations of a sequence at 1..n - 1 are 0.
func vanishes(s []int) bool {
	for u := 1; u < len(s); u++ {
		if periodicSum(s, s, u) != g(0, 0) {
			return false
		}
	}
	return len(s) > 0
}

// perfectsOf returns all perfect sequences of n phases, in the order of ranks.
func perfectsOf(n int) [][]int {
	return slices.DeleteFunc(sequencesOf(n), func(s []int) bool { return !vanishes(s) })
}

// frank returns the sequence of a list and a number by the document's sum.
func frank(p []int, k int) []int {
	var s []int
	for a := range 4 {
		for b := range 4 {
			s = append(s, (k*a*p[b]+p[b]*p[b])%4)
		}
	}
	return s
}

// knownPerfects returns perfect sequences of each length for which there are some.
func knownPerfects() [][]int {
	all := slices.Concat(perfectsOf(1), perfectsOf(2), perfectsOf(4))
	for _, text := range []string{"+++i-+-i", "+++j-+-j", "++i++-i-"} {
		for k := range 8 {
			s := turnedList(seq(text), k/2)
			all = append(all, slices.Concat(s[k:], s[:k]))
		}
	}
	for _, p := range orders(4) {
		all = append(all, frank(p, 1), frank(p, 3))
	}
	return all
}

// nearPerfects returns sequences that differ from a perfect one in one phase, or lack one, or have one more.
func nearPerfects() [][]int {
	var all [][]int
	for i, s := range knownPerfects() {
		x := i % len(s)
		all = append(all, changed(s, x, (s[x]+1+i%3)%4), s[1:], s[:len(s)-1], append(slices.Clone(s), i%4), slices.Concat(s, s))
	}
	return all
}

// outerSum returns the array of the sums of the phases of two sequences.
func outerSum(a []int, b []int) [][]int {
	return madeArray(len(a), len(b), func(i int, j int) int { return a[i] + b[j] })
}

// roundFrom returns the array that begins at a place and goes round.
func roundFrom(m [][]int, u int, v int) [][]int {
	return madeArray(len(m), len(m[0]), func(i int, j int) int { return m[(i+u)%len(m)][(j+v)%len(m[0])] })
}

// over returns an array with rows and columns exchanged.
func over(m [][]int) [][]int {
	return madeArray(len(m[0]), len(m), func(i int, j int) int { return m[j][i] })
}

// arraysOf returns all arrays of this size, in the order of the ranks of their rows, one behind the other.
func arraysOf(rows int, columns int) [][][]int {
	var all [][][]int
	for _, s := range sequencesOf(rows * columns) {
		all = append(all, madeArray(rows, columns, func(i int, j int) int { return s[columns*i+j] }))
	}
	return all
}

// perfectArrays returns the perfect ones of two rows and two columns, some that are no sums of two sequences, and sums of perfect sequences, up to the greatest size.
func perfectArrays() [][][]int {
	all := slices.DeleteFunc(arraysOf(2, 2), func(m [][]int) bool { return !hasPeakAlone(m) })
	for _, text := range []string{"+++- +i-i", "+++- +j-j", "+++- iiij", "+++- ijii"} {
		all = append(all, rowsOf(text), over(rowsOf(text)), roundFrom(rowsOf(text), 1, 3))
	}
	some := [][]int{seq("+"), seq("j"), seq("+i"), seq("-j"), seq("+++-"), seq("i+ji"), seq("+i+j"), seq("+++i-+-i"), seq("++i++-i-")}
	for _, a := range some {
		for _, b := range some {
			if vanishes(a) && vanishes(b) {
				all = append(all, outerSum(a, b))
			}
		}
	}
	return all
}

// arraySizes calls do with the numbers of rows and of columns of all sizes of arrays.
func arraySizes(do func(rows int, columns int)) {
	for rows := 1; rows <= impl.MaxRows; rows++ {
		for columns := 1; columns <= impl.MaxRows; columns++ {
			do(rows, columns)
		}
	}
}

// someArrays returns all arrays of at most 3 phases and some of each greater size, perfect ones, and some that differ from a perfect one in one phase.
func someArrays() [][][]int {
	all := perfectArrays()
	for i, m := range perfectArrays() {
		u, v := i%len(m), i%len(m[0])
		near := roundFrom(m, 0, 0)
		near[u][v] = (near[u][v] + 1 + i%3) % 4
		all = append(all, near)
	}
	for n := 1; n <= 3; n++ {
		all = append(all, arraysOf(1, n)...)
		all = append(all, arraysOf(n, 1)...)
	}
	arraySizes(func(rows int, columns int) {
		all = append(all,
			mixedArray(rows, columns, 0), mixedArray(rows, columns, 1),
			madeArray(rows, columns, func(int, int) int { return rows }),
			madeArray(rows, columns, func(i int, j int) int { return i*j + j }),
		)
	})
	return all
}

// badArrays returns lists of rows that are no array.
func badArrays() [][][]int {
	all := [][][]int{
		nil, {}, {nil}, {{}}, {nil, nil}, {{}, {}}, make([][]int, 8), make([][]int, 9), make([][]int, 1000), {rising(1000)}, {rising(33)}, {rising(32)},
		slices.Repeat([][]int{{0}}, 1000), slices.Repeat([][]int{rising(32)}, 32),
	}
	for n := 1; n <= impl.MaxRows; n++ {
		all = append(all, mixedArray(9, n, 0), mixedArray(n, 9, 0), mixedArray(32, n, 0), mixedArray(n, 32, 0), mixedArray(n, 0, 0), append(mixedArray(n, n, 0), nil))
	}
	arraySizes(func(rows int, columns int) {
		for i := range rows {
			for _, length := range []int{0, columns - 1, columns + 1, 8, 9, 33} {
				if rows > 1 && length != columns || length > 8 {
					m := mixedArray(rows, columns, i)
					m[i] = rising(length)
					all = append(all, m)
				}
			}
			for j := range columns {
				m := mixedArray(rows, columns, i+j)
				m[i][j] = notPhases()[(rows+3*i+j)%12]
				all = append(all, m)
			}
		}
	})
	return all
}

// badPhases returns lists that are no sequences, among them perfect sequences but for numbers that stand for the same phases.
func badPhases() [][]int {
	all := append(notSequences(), []int{4, 4, 4, 6}, []int{0, 0, 0, -2}, []int{-4, -3}, []int{4}, []int{-1})
	for n := 1; n <= impl.MaxLength; n++ {
		for i := range n {
			all = append(all, changed(rising(n), i, notPhases()[(n+i)%12]))
		}
	}
	return all
}

// notSizes returns numbers that are no numbers of rows.
func notSizes() []int {
	return []int{0, 9, -1, -2, -8, 10, 16, 32, 33, 1000, 1 << 32, 1<<32 + 1, -1 << 32, 1 << 62, math.MaxInt, math.MinInt, math.MinInt + 1}
}

func TestLimitOfRows(t *testing.T) {
	if impl.MaxRows != 8 {
		t.Error("the limit is", impl.MaxRows)
	}
}

func TestIsPerfect(t *testing.T) {
	for text, want := range map[string]bool{
		"": false, "+": true, "i": true, "-": true, "j": true,
		"+i": true, "i+": true, "+j": true, "-j": true, "++": false, "+-": false, "ij": false, "ii": false,
		"+++": false, "+i-": false, "++-": false,
		"+++-": true, "-+++": true, "ijii": true, "+i+j": true, "++--": false, "++++": false, "+i-j": false, "+-+-": false, "+i+i": false,
		"+++-+": false, "++++i": false, "+i-i+": false, "++-+-+": false, "+++-++": false, "++i+--i": false,
		"+++i-+-i": true, "+++-+++-": false, "++++++++": false, "+++i-+-j": false,
		"+i+i+--++j+j++--": true, "+i+i++--+j+j+--+": true, "+i+i+--++j+j++-+": false, "++++++++++++++++": false,
		"+i+i+--++j+j++-": false, "+i+i+--++j+j++--+": false,
		"+i+i+--++j+j++--+i+i+--++j+j++--": false, "++++++++++++++++++++++++++++++++": false,
	} {
		is, ok := impl.IsPerfect(seq(text))
		wantOne(t, called("IsPerfect", text), is, ok, want, true)
	}
	is, ok := impl.IsPerfect(nil)
	wantOne(t, "IsPerfect of nil", is, ok, false, true)
}

// TestPerfectSequencesAreTold holds IsPerfect against all periodic correlations, and the norm of the sum against the length.
func TestPerfectSequencesAreTold(t *testing.T) {
	for _, s := range slices.Concat(someSequences(), sequencesOf(5), knownPerfects(), nearPerfects()) {
		is, ok := impl.IsPerfect(s)
		wantOne(t, called("IsPerfect", s), is, ok, vanishes(s), true)
		sum, ok := impl.SumOf(s)
		if is && (!ok || norm(sum) != len(s)) {
			t.Error("the perfect sequence", s, "has the sum", sum)
		}
		own, ok := impl.PeriodicCorrelations(s)
		if !ok || is && !isZero(own[1:]) {
			t.Error("the perfect sequence", s, "has the correlations", own)
		}
	}
	for _, s := range knownPerfects() {
		is, ok := impl.IsPerfect(s)
		wantOne(t, called("IsPerfect", s), is, ok, true, true)
	}
}

// perfectMove is a move of sequences of chapter 1, with its number.
type perfectMove struct {
	name string
	do   func([]int) ([]int, bool)
}

// perfectMoves returns the moves that keep perfect sequences of n phases.
func perfectMoves(n int) []perfectMove {
	all := []perfectMove{{"ConjugateOf", impl.ConjugateOf}, {"BackwardsOf", impl.BackwardsOf}}
	for k := -1; k <= n; k++ {
		all = append(all,
			perfectMove{called("TurnBy", k), func(s []int) ([]int, bool) { return impl.TurnBy(s, k) }},
			perfectMove{called("ShiftBy", k), func(s []int) ([]int, bool) { return impl.ShiftBy(s, k) }},
		)
	}
	for k := range 4 {
		if k*n%4 == 0 { // the step from the last phase to the first one is as all others
			all = append(all, perfectMove{called("ClimbBy", k), func(s []int) ([]int, bool) { return impl.ClimbBy(s, k) }})
		}
	}
	return all
}

// TestPerfectSequencesStaySo moves perfect sequences and others.
func TestPerfectSequencesStaySo(t *testing.T) {
	for _, s := range slices.Concat(someSequences()[1:], knownPerfects(), nearPerfects()) {
		for _, move := range perfectMoves(len(s)) {
			moved, ok := move.do(s)
			is, fine := impl.IsPerfect(moved)
			if !ok || !fine || is != vanishes(s) {
				t.Errorf("%s makes %v of %v: perfect is %v, %v", move.name, moved, s, is, fine)
			}
		}
	}
}

func TestPerfectSearches(t *testing.T) {
	for _, c := range []struct {
		n     int
		count int
		first string
	}{{1, 4, "+"}, {2, 8, "+i"}, {3, 0, ""}, {4, 32, "+++-"}, {5, 0, ""}, {6, 0, ""}, {7, 0, ""}, {8, 0, "+++i-+-i"}} {
		count, ok := impl.CountPerfect(c.n)
		wantOne(t, called("CountPerfect", c.n), count, ok, c.count, c.n <= 6)
		all, ok := impl.AllPerfect(c.n)
		if ok != (c.n <= 6) || len(all) != c.count || len(all) > 0 && !slices.Equal(all[0], seq(c.first)) {
			t.Error("AllPerfect", c.n, "is", all, ok)
		}
		first, ok := impl.FirstPerfect(c.n)
		wantList(t, called("FirstPerfect", c.n), first, ok, seq(c.first), c.first != "")
	}
	all, ok := impl.AllPerfect(2)
	wantMatrix(t, "AllPerfect of 2", all, ok, rowsOf("+i +j i+ i- -i -j j+ j-"), true)
	for _, n := range []int{0, 9, 10, 15, 16, 17, 31, 32, 33, 64, -1, -2, -4, -8, 1 << 32, 1<<32 + 1, 1<<32 + 4, 1 << 62, math.MaxInt, math.MinInt, math.MinInt + 1, math.MinInt + 4} {
		count, ok := impl.CountPerfect(n)
		wantOne(t, called("CountPerfect", n), count, ok, 0, false)
		all, ok := impl.AllPerfect(n)
		wantMatrix(t, called("AllPerfect", n), all, ok, nil, false)
		first, ok := impl.FirstPerfect(n)
		wantList(t, called("FirstPerfect", n), first, ok, nil, false)
	}
}

// TestPerfectSearchesAgree holds the searches against one by sums of the test's own.
func TestPerfectSearchesAgree(t *testing.T) {
	for n := 1; n <= 8; n++ {
		want := perfectsOf(n)
		count, ok := impl.CountPerfect(n)
		wantOne(t, called("CountPerfect", n), count, ok, len(want), n <= 6)
		all, ok := impl.AllPerfect(n)
		wantMatrix(t, called("AllPerfect", n), all, ok, want, n <= 6)
		first, ok := impl.FirstPerfect(n)
		wantList(t, called("FirstPerfect", n), first, ok, append(want, nil)[0], len(want) > 0)
		for _, s := range want {
			is, ok := impl.IsPerfect(s)
			wantOne(t, called("IsPerfect", s), is, ok, true, true)
		}
	}
}

func TestFrankOf(t *testing.T) {
	for _, c := range []struct {
		p    []int
		k    int
		want string
	}{
		{[]int{0, 1, 2, 3}, 1, "+i+i+--++j+j++--"},
		{[]int{0, 1, 2, 3}, 3, "+i+i++--+j+j+--+"},
		{[]int{3, 2, 1, 0}, 1, "i+i++--+j+j+--++"},
		{[]int{1, 0, 3, 2}, 3, "i+i++ +-- j+j+ -++-"},
	} {
		got, ok := impl.FrankOf(c.p, c.k)
		wantList(t, called("FrankOf", c.p, c.k), got, ok, slices.Concat(rowsOf(c.want)...), true)
	}
}

// TestFrankOfAllLists tries all lists of four numbers, of which just the orders of 0..3 make a sequence.
func TestFrankOfAllLists(t *testing.T) {
	numbers := []int{0, 1, 2, 3, 4, -1}
	for x := range 6 * 6 * 6 * 6 {
		p := []int{numbers[x/216], numbers[x/36%6], numbers[x/6%6], numbers[x%6]}
		sorted := slices.Sorted(slices.Values(p))
		for k := -1; k <= 5; k++ {
			fine := slices.Equal(sorted, []int{0, 1, 2, 3}) && (k == 1 || k == 3)
			var want []int
			if fine {
				want = frank(p, k)
			}
			s, ok := impl.FrankOf(p, k)
			wantList(t, called("FrankOf", p, k), s, ok, want, fine)
			is, isList := impl.IsPerfect(s)
			wantOne(t, called("IsPerfect of FrankOf", p, k), is, isList, fine, true)
		}
	}
	bad := append(notSequences(), nil, []int{}, []int{0}, []int{0, 1}, []int{0, 1, 2}, []int{1, 0, 2}, []int{0, 1, 2, 3, 4}, []int{4, 3, 2, 1, 0}, []int{0, 1, 2, 3, 0}, []int{1, 2, 3, 4}, rising(8), rising(16))
	for i, other := range notPhases() {
		bad = append(bad, changed([]int{0, 1, 2, 3}, i%4, other), []int{other, other, other, other})
	}
	for _, p := range bad {
		for _, k := range []int{1, 3} {
			s, ok := impl.FrankOf(p, k)
			wantList(t, called("FrankOf", p, k), s, ok, nil, false)
		}
	}
	for _, k := range []int{0, 2, 4, 5, 7, -1, -3, 1000, 1<<32 + 1, 1<<32 + 3, math.MaxInt, math.MinInt, math.MinInt + 1, math.MinInt + 3} {
		s, ok := impl.FrankOf([]int{0, 1, 2, 3}, k)
		wantList(t, called("FrankOf", k), s, ok, nil, false)
	}
}

func TestIsArray(t *testing.T) {
	for _, m := range someArrays() {
		if !impl.IsArray(m) {
			t.Errorf("%v should be an array", m)
		}
	}
	for _, m := range badArrays() {
		if impl.IsArray(m) {
			t.Errorf("%v should be no array", m)
		}
	}
}

// TestArraysAreRefused gives what is no array to each function that requires one.
func TestArraysAreRefused(t *testing.T) {
	for _, m := range badArrays() {
		is, ok := impl.IsPerfectArray(m)
		wantOne(t, called("IsPerfectArray", m), is, ok, false, false)
		s, ok := impl.UnfoldOf(m)
		wantList(t, called("UnfoldOf", m), s, ok, nil, false)
		for _, u := range []int{0, 1, -1, math.MinInt} {
			for _, v := range []int{0, 1, -1, math.MaxInt} {
				z, ok := impl.ArrayAt(m, u, v)
				wantOne(t, called("ArrayAt", m, u, v), z, ok, gauss{}, false)
				got, ok := impl.ShiftArray(m, u, v)
				wantMatrix(t, called("ShiftArray", m, u, v), got, ok, nil, false)
			}
		}
	}
}

// TestNoPerfectSequences gives lists that are no sequences to each function that requires one.
func TestNoPerfectSequences(t *testing.T) {
	for _, bad := range badPhases() {
		is, ok := impl.IsPerfect(bad)
		wantOne(t, called("IsPerfect", bad), is, ok, false, false)
		got, ok := impl.ShiftMatrix(bad)
		wantMatrix(t, called("ShiftMatrix", bad), got, ok, nil, false)
		for rows := range 10 {
			got, ok := impl.FoldOf(bad, rows)
			wantMatrix(t, called("FoldOf", bad, rows), got, ok, nil, false)
		}
		for _, other := range [][]int{{0}, {0, 1}, rising(8), bad, nil} {
			got, ok := impl.OuterArray(bad, other)
			wantMatrix(t, called("OuterArray", bad, other), got, ok, nil, false)
			got, ok = impl.OuterArray(other, bad)
			wantMatrix(t, called("OuterArray", other, bad), got, ok, nil, false)
		}
	}
}

func TestArrayAt(t *testing.T) {
	for _, c := range []struct {
		m    string
		u, v int
		want gauss
		fine bool
	}{
		{"j", 0, 0, g(1, 0), true}, {"j", 0, 1, gauss{}, false}, {"j", 1, 0, gauss{}, false}, {"j", 0, -1, gauss{}, false}, {"j", -1, 0, gauss{}, false},
		{"+i", 0, 0, g(2, 0), true}, {"+i", 0, 1, g(0, 0), true}, {"+i", 0, 2, gauss{}, false}, {"+i", 1, 0, gauss{}, false}, {"+i", 1, 1, gauss{}, false},
		{"+ i", 1, 0, g(0, 0), true}, {"+ i", 0, 1, gauss{}, false},
		{"+i-", 0, 1, g(-1, 2), true}, {"+i-", 0, 2, g(-1, -2), true},
		{"+ i -", 1, 0, g(-1, 2), true}, {"+ i -", 2, 0, g(-1, -2), true}, {"+ i -", 3, 0, gauss{}, false},
		{"++ +-", 0, 1, g(0, 0), true}, {"++ +-", 1, 0, g(0, 0), true}, {"++ +-", 1, 1, g(0, 0), true}, {"++ +-", 0, 0, g(4, 0), true},
		{"+i i+", 1, 1, g(4, 0), true}, {"+i i+", 0, 1, g(0, 0), true}, {"+i i-", 1, 1, g(0, 0), true},
		{"++i +-j", 0, 0, g(6, 0), true}, {"++i +-j", 0, 1, g(0, 2), true}, {"++i +-j", 0, 2, g(0, -2), true},
		{"++i +-j", 1, 0, g(-2, 0), true}, {"++i +-j", 1, 1, g(0, -2), true}, {"++i +-j", 1, 2, g(0, 2), true},
		{"++i +-j", 2, 0, gauss{}, false}, {"++i +-j", 0, 3, gauss{}, false}, {"++i +-j", 1, 3, gauss{}, false}, {"++i +-j", 2, 2, gauss{}, false},
		{"++i +-j", -1, 0, gauss{}, false}, {"++i +-j", 0, -1, gauss{}, false}, {"++i +-j", -1, -1, gauss{}, false},
		{"++++ +-+-", 0, 2, g(8, 0), true}, {"++++ +-+-", 1, 2, g(0, 0), true},
	} {
		z, ok := impl.ArrayAt(rowsOf(c.m), c.u, c.v)
		wantOne(t, called("ArrayAt", c.m, c.u, c.v), z, ok, c.want, c.fine)
	}
}

func TestIsPerfectArray(t *testing.T) {
	for text, want := range map[string]bool{
		"+": true, "j": true, "+i": true, "+ i": true, "++": false, "+ -": false, "+i-": false, "+ i -": false,
		"+++-": true, "i i i j": true, "+i-j": false, "+++i-+-i": true, "+ + + i - + - i": true, "+++i-+-j": false,
		"++ +-": true, "+i i-": true, "+i ij": false, "+i i+": false, "++ ++": false, "++ --": false, "+i +i": false,
		"++i +-j": false, "++ +- ij": false, "++++ +-+-": false, "+++- +i-i": true, "++ +i +- -i": true, "+++- +i-j": false,
		"+++- +++- +++- ---+": true, "++++ +i-j +-+- +j-i": true, "++++ +i-j +-+- +j-+": false,
	} {
		is, ok := impl.IsPerfectArray(rowsOf(text))
		wantOne(t, called("IsPerfectArray", text), is, ok, want, true)
	}
}

// TestArraysAreSummed holds what is told of arrays against sums of the test's own, at all places and just outside.
func TestArraysAreSummed(t *testing.T) {
	for _, m := range someArrays() {
		for u := range m {
			for v := range m[0] {
				z, ok := impl.ArrayAt(m, u, v)
				wantOne(t, called("ArrayAt", m, u, v), z, ok, arraySum(m, u, v), true)
			}
			for _, bad := range notIndices(len(m[0])) {
				z, ok := impl.ArrayAt(m, u, bad)
				wantOne(t, called("ArrayAt", m, u, bad), z, ok, gauss{}, false)
			}
		}
		for _, bad := range notIndices(len(m)) {
			for v := range m[0] {
				z, ok := impl.ArrayAt(m, bad, v)
				wantOne(t, called("ArrayAt", m, bad, v), z, ok, gauss{}, false)
			}
			z, ok := impl.ArrayAt(m, bad, bad)
			wantOne(t, called("ArrayAt", m, bad, bad), z, ok, gauss{}, false)
		}
		is, ok := impl.IsPerfectArray(m)
		wantOne(t, called("IsPerfectArray", m), is, ok, hasPeakAlone(m), true)
	}
	for _, m := range perfectArrays() {
		is, ok := impl.IsPerfectArray(m)
		wantOne(t, called("IsPerfectArray", m), is, ok, true, true)
	}
}

// TestOneRowOrColumn holds arrays of one row, and of one column, against the sequence of their phases.
func TestOneRowOrColumn(t *testing.T) {
	for _, s := range slices.Concat(someSequences()[1:], knownPerfects(), nearPerfects()) {
		row, column := [][]int{s}, over([][]int{s})
		fits := 1 <= len(s) && len(s) <= impl.MaxRows
		for _, m := range [][][]int{row, column} {
			is, ok := impl.IsPerfectArray(m)
			wantOne(t, called("IsPerfectArray", m), is, ok, vanishes(s), fits)
			back, ok := impl.UnfoldOf(m)
			wantList(t, called("UnfoldOf", m), back, ok, s, fits)
		}
		for u := range s {
			z, ok := impl.ArrayAt(row, 0, u)
			wantOne(t, called("ArrayAt", row, 0, u), z, ok, periodicSum(s, s, u), fits)
			z, ok = impl.ArrayAt(column, u, 0)
			wantOne(t, called("ArrayAt", column, u, 0), z, ok, periodicSum(s, s, u), fits)
		}
	}
}

func TestOuterArray(t *testing.T) {
	for _, c := range []struct{ a, b, want string }{
		{"+", "+", "+"}, {"i", "j", "+"}, {"-", "j", "i"}, {"+i", "+", "+ i"}, {"+", "+i", "+i"},
		{"+i", "+i-", "+i- i-j"}, {"+i-", "+i", "+i i- -j"}, {"jj", "ji", "-+ -+"}, {"+-", "+++-", "+++- ---+"},
	} {
		got, ok := impl.OuterArray(seq(c.a), seq(c.b))
		wantMatrix(t, called("OuterArray", c.a, c.b), got, ok, rowsOf(c.want), true)
	}
}

// TestOuterArrays tries sequences of all lengths, and holds the array against both of them.
func TestOuterArrays(t *testing.T) {
	all := slices.Concat(allSequences(2), perfectsOf(4), [][]int{seq("+++i-+-i"), seq("++i++-i-"), rising(4), nil})
	for n := 3; n <= impl.MaxLength; n++ {
		all = append(all, mixedPhases(n, 0))
	}
	for _, a := range all {
		for _, b := range all {
			fine := 1 <= len(a) && len(a) <= 8 && 1 <= len(b) && len(b) <= 8
			got, ok := impl.OuterArray(a, b)
			wantMatrix(t, called("OuterArray", a, b), got, ok, outerSum(a, b), fine)
			is, ok := impl.IsPerfectArray(got)
			wantOne(t, called("IsPerfectArray", got), is, ok, vanishes(a) && vanishes(b), fine)
		}
	}
}

// haveDivisor tells whether two numbers have a common divisor greater than 1.
func haveDivisor(a int, b int) bool {
	for d := 2; d <= min(a, b); d++ {
		if a%d == 0 && b%d == 0 {
			return true
		}
	}
	return false
}

// folded returns the array in which each place has the phase of the least index that both remainders tell.
func folded(s []int, rows int, columns int) [][]int {
	return madeArray(rows, columns, func(i int, j int) int {
		for t, k := range s {
			if t%rows == i && t%columns == j {
				return k
			}
		}
		return 0
	})
}

func TestFoldOf(t *testing.T) {
	for _, c := range []struct {
		s    string
		rows int
		want string
	}{
		{"++-+-+", 2, "+-- +++"}, {"++-+-+", 3, "++ -+ -+"}, {"++-+-+", 1, "++-+-+"}, {"++-+-+", 6, "+ + - + - +"},
		{"+i-j+i", 2, "++- jii"}, {"+i-j+i", 3, "+j +i -i"},
		{"j", 1, "j"}, {"+i", 1, "+i"}, {"+i", 2, "+ i"}, {"++i++-i-", 1, "++i++-i-"}, {"++i++-i-", 8, "+ + i + + - i -"},
		{"+i-j+i-j+i-j", 3, "+i-j +i-j +i-j"}, {"+i-j+i-j+i-j", 4, "+++ iii --- jjj"}, {"+iii-jjj+++-", 4, "+-+ +ij j+i ij-"},
	} {
		got, ok := impl.FoldOf(seq(c.s), c.rows)
		wantMatrix(t, called("FoldOf", c.s, c.rows), got, ok, rowsOf(c.want), true)
	}
}

// TestFoldOfAllLengths folds sequences of all lengths by all numbers of rows and just outside.
func TestFoldOfAllLengths(t *testing.T) {
	for _, s := range someSequences() {
		for rows := -1; rows <= impl.MaxLength+1; rows++ {
			fine := 1 <= rows && rows <= 8 && len(s)%rows == 0 && 1 <= len(s)/rows && len(s)/rows <= 8 && !haveDivisor(rows, len(s)/rows)
			var want [][]int
			if fine {
				want = folded(s, rows, len(s)/rows)
			}
			got, ok := impl.FoldOf(s, rows)
			wantMatrix(t, called("FoldOf", s, rows), got, ok, want, fine)
		}
		for _, bad := range append(notSizes(), -len(s)) {
			got, ok := impl.FoldOf(s, bad)
			wantMatrix(t, called("FoldOf", s, bad), got, ok, nil, false)
		}
	}
	for s, rows := range map[string]int{"": 1, "++": 0, "++++": 2, "++++++++": 2, "+i-j+i-j+i-j": 2, "+i-j+i-j+": 1, "+++++++++": 3} {
		got, ok := impl.FoldOf(seq(s), rows)
		wantMatrix(t, called("FoldOf", s, rows), got, ok, nil, false)
	}
}

func TestUnfoldOf(t *testing.T) {
	for _, c := range []struct {
		m    string
		want string
		fine bool
	}{
		{"+-- +++", "++-+-+", true}, {"++ -+ -+", "++-+-+", true}, {"++- jii", "+i-j+i", true}, {"+j +i -i", "+i-j+i", true},
		{"j", "j", true}, {"+i", "+i", true}, {"+ i", "+i", true}, {"++i++-i-", "++i++-i-", true}, {"+ + i + + - i -", "++i++-i-", true},
		{"+i-j +i-j +i-j", "+i-j+i-j+i-j", true}, {"+-+ +ij j+i ij-", "+iii-jjj+++-", true},
		{"++ ++", "", false}, {"++++ ++++", "", false}, {"+++ +++ +++", "", false}, {"++++++ ++++++ ++++++", "", false}, {"++ ++ ++ ++ ++ ++", "", false},
	} {
		s, ok := impl.UnfoldOf(rowsOf(c.m))
		wantList(t, called("UnfoldOf", c.m), s, ok, seq(c.want), c.fine)
	}
}

// TestFoldingIsUndone folds and unfolds by all numbers of rows and of columns, with and without a common divisor, and past the greatest length.
func TestFoldingIsUndone(t *testing.T) {
	for _, m := range someArrays() {
		rows, columns := len(m), len(m[0])
		fine := !haveDivisor(rows, columns) && rows*columns <= impl.MaxLength
		var want []int
		for x := range rows * columns {
			want = append(want, m[x%rows][x%columns])
		}
		s, ok := impl.UnfoldOf(m)
		wantList(t, called("UnfoldOf", m), s, ok, want, fine)
		back, ok := impl.FoldOf(s, rows)
		wantMatrix(t, called("FoldOf", s, rows), back, ok, m, fine)
		transposed, ok := impl.UnfoldOf(over(m))
		wantList(t, called("UnfoldOf", over(m)), transposed, ok, want, fine)
	}
}

// TestFoldedCorrelations holds the own correlations of folded sequences against those of the sequences, which are folded, too.
func TestFoldedCorrelations(t *testing.T) {
	for _, s := range slices.Concat(someSequences(), sequencesOf(6), knownPerfects(), nearPerfects()) {
		for rows := 1; rows <= impl.MaxRows; rows++ {
			m, ok := impl.FoldOf(s, rows)
			if !ok {
				continue
			}
			for u := range s {
				z, ok := impl.ArrayAt(m, u%rows, u%len(m[0]))
				wantOne(t, called("ArrayAt", m, u%rows, u%len(m[0])), z, ok, periodicSum(s, s, u), true)
			}
			is, ok := impl.IsPerfectArray(m)
			wantOne(t, called("IsPerfectArray of FoldOf", s, rows), is, ok, vanishes(s), true)
		}
	}
}

func TestCountPerfectArrays(t *testing.T) {
	for size, want := range map[[2]int]int{
		{1, 1}: 4, {1, 2}: 8, {2, 1}: 8, {1, 3}: 0, {3, 1}: 0, {1, 4}: 32, {2, 2}: 64, {4, 1}: 32,
		{1, 5}: 0, {5, 1}: 0, {1, 6}: 0, {2, 3}: 0, {3, 2}: 0, {6, 1}: 0,
	} {
		count, ok := impl.CountPerfectArrays(size[0], size[1])
		wantOne(t, called("CountPerfectArrays", size), count, ok, want, true)
		found := 0
		for _, m := range arraysOf(size[0], size[1]) {
			is, ok := impl.IsPerfectArray(m)
			wantOne(t, called("IsPerfectArray", m), is, ok, hasPeakAlone(m), true)
			if is {
				found++
			}
		}
		wantOne(t, called("CountPerfectArrays by search", size), found, true, count, true)
	}
	for rows := -7; rows <= 9; rows++ {
		for columns := -7; columns <= 9; columns++ {
			fine := rows >= 1 && columns >= 1 && rows*columns <= 6
			if count, ok := impl.CountPerfectArrays(rows, columns); ok != fine || !fine && count != 0 {
				t.Error("CountPerfectArrays", rows, columns, "is", count, ok)
			}
		}
	}
	for _, bad := range append(notSizes(), 7, 8, 1<<62+1, math.MinInt+2, math.MinInt+3) {
		for other := -4; other <= 8; other++ {
			count, ok := impl.CountPerfectArrays(bad, other)
			wantOne(t, called("CountPerfectArrays", bad, other), count, ok, 0, false)
			count, ok = impl.CountPerfectArrays(other, bad)
			wantOne(t, called("CountPerfectArrays", other, bad), count, ok, 0, false)
		}
		count, ok := impl.CountPerfectArrays(bad, bad)
		wantOne(t, called("CountPerfectArrays", bad, bad), count, ok, 0, false)
	}
}

func TestShiftArray(t *testing.T) {
	for _, c := range []struct {
		m    string
		u, v int
		want string
		fine bool
	}{
		{"j", 0, 0, "j", true}, {"j", 0, 1, "", false}, {"j", 1, 0, "", false}, {"j", 0, -1, "", false}, {"j", -1, 0, "", false},
		{"+i-", 0, 1, "i-+", true}, {"+i-", 0, 2, "-+i", true}, {"+i-", 0, 3, "", false}, {"+i-", 1, 0, "", false},
		{"+ i -", 1, 0, "i - +", true}, {"+ i -", 2, 0, "- + i", true}, {"+ i -", 3, 0, "", false}, {"+ i -", 0, 1, "", false},
		{"+i- j++", 0, 0, "+i- j++", true}, {"+i- j++", 1, 0, "j++ +i-", true}, {"+i- j++", 0, 1, "i-+ ++j", true}, {"+i- j++", 1, 2, "+j+ -+i", true},
		{"+i- j++", 2, 0, "", false}, {"+i- j++", 0, 3, "", false}, {"+i- j++", 2, 2, "", false}, {"+i- j++", -1, 2, "", false}, {"+i- j++", 1, -1, "", false},
	} {
		got, ok := impl.ShiftArray(rowsOf(c.m), c.u, c.v)
		wantMatrix(t, called("ShiftArray", c.m, c.u, c.v), got, ok, rowsOf(c.want), c.fine)
	}
}

// TestArraysAreShifted shifts arrays to all places and back, which keeps their correlations.
func TestArraysAreShifted(t *testing.T) {
	for _, m := range someArrays() {
		rows, columns := len(m), len(m[0])
		for u := range rows {
			for v := range columns {
				got, ok := impl.ShiftArray(m, u, v)
				wantMatrix(t, called("ShiftArray", m, u, v), got, ok, roundFrom(m, u, v), true)
				back, ok := impl.ShiftArray(got, (rows-u)%rows, (columns-v)%columns)
				wantMatrix(t, called("ShiftArray back", got, u, v), back, ok, m, true)
				before, first := impl.ArrayAt(m, u, columns-1-v)
				after, second := impl.ArrayAt(got, u, columns-1-v)
				wantOne(t, called("ArrayAt", got, u, columns-1-v), after, first && second, before, true)
			}
			for _, bad := range notIndices(columns) {
				got, ok := impl.ShiftArray(m, u, bad)
				wantMatrix(t, called("ShiftArray", m, u, bad), got, ok, nil, false)
			}
		}
		for _, bad := range notIndices(rows) {
			for v := range columns {
				got, ok := impl.ShiftArray(m, bad, v)
				wantMatrix(t, called("ShiftArray", m, bad, v), got, ok, nil, false)
			}
		}
	}
}

func TestShiftMatrix(t *testing.T) {
	for s, want := range map[string]string{
		"j": "j", "+i": "+i i+", "+i-": "+i- i-+ -+i", "+++-": "+++- ++-+ +-++ -+++",
		"+i-j++ij": "+i-j++ij i-j++ij+ -j++ij+i j++ij+i- ++ij+i-j +ij+i-j+ ij+i-j++ j+i-j++i",
	} {
		got, ok := impl.ShiftMatrix(seq(s))
		wantMatrix(t, called("ShiftMatrix", s), got, ok, rowsOf(want), true)
	}
}

// TestShiftMatrices holds the rows against ShiftBy, and their inner products against the perfect sequences.
func TestShiftMatrices(t *testing.T) {
	for _, s := range slices.Concat(someSequences(), knownPerfects(), nearPerfects()) {
		fine := 1 <= len(s) && len(s) <= 8
		got, ok := impl.ShiftMatrix(s)
		if !fine {
			wantMatrix(t, called("ShiftMatrix", s), got, ok, nil, false)
			continue
		}
		var want [][]int
		for i := range s {
			row, ok := impl.ShiftBy(s, i)
			wantList(t, called("ShiftBy", s, i), row, ok, slices.Concat(s[i:], s[:i]), true)
			want = append(want, row)
		}
		wantMatrix(t, called("ShiftMatrix", s), got, ok, want, true)
		orthogonal := firstPairIn(got) == nil
		wantOne(t, called("orthogonal rows of ShiftMatrix", s), orthogonal, true, vanishes(s), true)
		is, ok := impl.IsHadamard(got)
		wantOne(t, called("IsHadamard of ShiftMatrix", s), is, ok, vanishes(s), true)
	}
}

// TestPerfectArraysStaySo moves perfect arrays and others.
func TestPerfectArraysStaySo(t *testing.T) {
	for _, m := range someArrays() {
		want := hasPeakAlone(m)
		check := func(name string, moved [][]int, ok bool) {
			is, fine := impl.IsPerfectArray(moved)
			if !ok || !fine || is != want {
				t.Errorf("%s makes %v of %v: perfect is %v, %v", name, moved, m, is, fine)
			}
		}
		for u := range m {
			for v := range m[0] {
				moved, ok := impl.ShiftArray(m, u, v)
				check("ShiftArray", moved, ok)
			}
		}
		check("exchanging rows and columns", over(m), true)
		for k := range 4 {
			check("turning", madeArray(len(m), len(m[0]), func(i int, j int) int { return m[i][j] + k }), true)
			check("turning the conjugate", madeArray(len(m), len(m[0]), func(i int, j int) int { return k - m[i][j] }), true)
		}
		if len(m) == len(m[0]) {
			moved, ok := impl.TurnedOver(m)
			check("TurnedOver", moved, ok)
			moved, ok = impl.ConjugateMatrix(m)
			check("ConjugateMatrix", moved, ok)
		}
	}
}

// TestArraysOfOneMemory gives arrays whose rows are the same memory, or parts of it that overlap.
func TestArraysOfOneMemory(t *testing.T) {
	memory := seq("+i-j++-ij+-j+i+-+++-i")
	before := slices.Clone(memory)
	arraySizes(func(rows int, columns int) {
		for step := range 3 {
			m := make([][]int, rows)
			for i := range m {
				from := min(i*step, len(memory)-columns)
				m[i] = memory[from : from+columns]
			}
			u, v := rows-1, columns/2
			got, ok := impl.ShiftArray(m, u, v)
			want := roundFrom(m, u, v)
			wantMatrix(t, called("ShiftArray", m, u, v), got, ok, want, true)
			for i, row := range got {
				clear(row)
				wantMatrix(t, called("ShiftArray", m, u, v)+", the rows behind one that is cleared,", got[i+1:], ok, want[i+1:], true)
			}
			z, ok := impl.ArrayAt(m, u, v)
			wantOne(t, called("ArrayAt", m, u, v), z, ok, arraySum(m, u, v), true)
			is, ok := impl.IsPerfectArray(m)
			wantOne(t, called("IsPerfectArray", m), is, ok, hasPeakAlone(m), true)
			outer, ok := impl.OuterArray(m[0][:rows%(columns+1)], m[0])
			wantMatrix(t, called("OuterArray", m[0][:rows%(columns+1)], m[0]), outer, ok, outerSum(m[0][:rows%(columns+1)], m[0]), rows%(columns+1) > 0)
			wantList(t, called("ShiftArray", m, u, v)+", the memory", memory, true, before, true)
		}
	})
}
