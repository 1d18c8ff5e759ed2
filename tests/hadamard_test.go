package tests

import (
	"fmt"
	"math"
	"slices"
	"strings"
	"testing"

	"loop.example/g01177/impl"
)

// The tests of promise 4: chapter 4, Hadamard matrices.

// rowsOf reads a matrix whose rows have blanks between them.
func rowsOf(text string) [][]int {
	var m [][]int
	for _, word := range strings.Fields(text) {
		m = append(m, seq(word))
	}
	return m
}

// made returns the matrix of n rows that has at(i, j), modulo 4, in the row i and the column j.
func made(n int, at func(i int, j int) int) [][]int {
	return madeArray(n, n, at)
}

// mixed returns a matrix without a simple order, another one for each seed.
func mixed(n int, seed int) [][]int {
	return mixedArray(n, n, seed)
}

// wantMatrix fails the test unless all rows are as wanted; where ok is not wanted, there are to be none.
func wantMatrix(t *testing.T, call string, got [][]int, ok bool, want [][]int, fine bool) {
	t.Helper()
	if !fine {
		want = nil
	}
	if ok != fine || !slices.EqualFunc(got, want, slices.Equal[[]int]) {
		t.Errorf("%s is %v, %v and not %v, %v", call, got, ok, want, fine)
	}
}

// innerSum sums by the differences of phases.
func innerSum(a []int, b []int) gauss {
	var sum gauss
	for c := range a {
		sum = plus(sum, turned(g(1, 0), a[c]-b[c]))
	}
	return sum
}

// firstPairIn returns the first two rows that are not orthogonal, or nil.
func firstPairIn(m [][]int) []int {
	for i := range m {
		for j := i + 1; j < len(m); j++ {
			if innerSum(m[i], m[j]) != g(0, 0) {
				return []int{i, j}
			}
		}
	}
	return nil
}

func transposed(m [][]int) [][]int {
	return made(len(m), func(i int, j int) int { return m[j][i] })
}

func productOfMatrices(a [][]int, b [][]int) [][]int {
	p := len(b)
	return made(len(a)*p, func(i int, j int) int { return a[i/p][j/p] + b[i%p][j%p] })
}

// knownHadamards returns Hadamard matrices of each number of rows in 1..8 for which there are some.
func knownHadamards() [][][]int {
	return [][][]int{
		rowsOf("+"), rowsOf("i"), rowsOf("-"), rowsOf("j"),
		rowsOf("++ +-"), rowsOf("ii +-"),
		rowsOf("++++ +i-j +-+- +j-i"), rowsOf("++++ +-+- ++-- +--+"), rowsOf("++++ ++-- +-ij +-ji"),
		rowsOf("++++++ +-ijji +i-ijj +ji-ij +jji-i +ijji-"),
		rowsOf("++++++++ +-+-+-+- ++--++-- +--++--+ ++++---- +-+--+-+ ++----++ +--+-++-"),
	}
}

// scrambled exchanges and turns rows and columns in a way that depends on a seed.
func scrambled(m [][]int, seed int) [][]int {
	n := len(m)
	turns := mixed(n, seed)
	return made(n, func(i int, j int) int {
		return m[(n-1-i+seed)%n][(j+2*seed)%n] + turns[0][i] + turns[n-1][j]
	})
}

// someHadamards returns the known ones and others that are made of them.
func someHadamards() [][][]int {
	var all [][][]int
	for _, m := range knownHadamards() {
		all = append(all, m)
		for seed := range 5 {
			all = append(all, scrambled(m, seed), transposed(scrambled(m, seed+5)))
		}
	}
	return all
}

// allMatrices returns all matrices of n rows.
func allMatrices(n int) [][][]int {
	var all [][][]int
	for _, s := range sequencesOf(n * n) {
		all = append(all, made(n, func(i int, j int) int { return s[n*i+j] }))
	}
	return all
}

// someMatrices returns all matrices of 1 and 2 rows, some of each greater number of rows, and Hadamard matrices.
func someMatrices() [][][]int {
	all := slices.Concat(allMatrices(1), allMatrices(2), someHadamards())
	for n := 3; n <= impl.MaxSide; n++ {
		for seed := range 8 {
			all = append(all, mixed(n, seed))
		}
		for k := range 4 {
			all = append(all, made(n, func(int, int) int { return k }), made(n, func(i int, j int) int { return k * i * j }))
		}
	}
	return all
}

// nearHadamards returns matrices that differ from a Hadamard matrix of at least 2 rows in one phase, or have a row of it twice.
func nearHadamards() [][][]int {
	var all [][][]int
	for _, m := range someHadamards() {
		n := len(m)
		for i := range n {
			all = append(all, made(n, func(r int, c int) int {
				if r == i && c == n-1-i/2 {
					return m[r][c] + 1 + i%3
				}
				return m[r][c]
			}))
			for j := range i {
				all = append(all, made(n, func(r int, c int) int {
					if r == i {
						return m[j][c] + i + j
					}
					return m[r][c]
				}))
			}
		}
	}
	return slices.DeleteFunc(all, func(m [][]int) bool { return len(m) < 2 })
}

// badMatrices returns lists of rows that are no matrix.
func badMatrices() [][][]int {
	all := [][][]int{
		nil, {}, {nil}, {{}}, {nil, nil}, {{}, {}}, {{0, 0}}, {{0}, {0}}, {{0}, nil}, {nil, {0}}, {{0, 0}, {0}}, {{0}, {0, 0}},
		make([][]int, 1000), {rising(1000)}, {rising(32)}, rowsOf("+++ +++"), rowsOf("++ ++ ++"), rowsOf("++ + ++ "),
	}
	for _, side := range []int{9, 10, 16, 32, 33} {
		all = append(all, mixed(side, 0))
	}
	for n := 1; n <= impl.MaxSide; n++ {
		all = append(all, slices.Concat(mixed(n, 0), mixed(n, 1)), append(mixed(n, 0), nil), append(mixed(n, 0), repeated(0, n)), mixed(n+1, 0)[:n])
		for i := range n {
			for _, length := range []int{0, n - 1, n + 1, 33, 1000} {
				m := mixed(n, i)
				m[i] = rising(length)
				all = append(all, m)
			}
			for j := range n {
				for _, bad := range notPhases()[(i+j)%4*3:][:3] {
					m := mixed(n, i)
					m[i][j] = bad
					all = append(all, m)
				}
			}
		}
	}
	return all
}

// notIndices returns numbers that are no indices of n rows.
func notIndices(n int) []int {
	return []int{n, -1, n + 1, -n, -n - 1, 2 * n, 1000, 1 << 32, -1 << 32, math.MaxInt, math.MinInt, math.MinInt + 1}
}

func TestLimitOfSides(t *testing.T) {
	if impl.MaxSide != 8 {
		t.Error("the limit is", impl.MaxSide)
	}
}

func TestIsMatrix(t *testing.T) {
	for _, m := range someMatrices() {
		if !impl.IsMatrix(m) {
			t.Errorf("%v should be a matrix", m)
		}
	}
	for _, m := range badMatrices() {
		if impl.IsMatrix(m) {
			t.Errorf("%v should be no matrix", m)
		}
	}
}

// TestMatricesAreRefused gives what is no matrix to each function that requires one.
func TestMatricesAreRefused(t *testing.T) {
	for _, m := range badMatrices() {
		is, ok := impl.IsHadamard(m)
		wantOne(t, called("IsHadamard", m), is, ok, false, false)
		for _, move := range movesOf(1) {
			got, ok := move.do(m)
			wantMatrix(t, called(move.name, m), got, ok, nil, false)
		}
		for i := range 2 {
			z, ok := impl.InnerOf(m, 0, i)
			wantOne(t, called("InnerOf", m, 0, i), z, ok, gauss{}, false)
		}
		for _, other := range [][][]int{rowsOf("+"), rowsOf("++ +-"), m, nil} {
			got, ok := impl.KroneckerOf(m, other)
			wantMatrix(t, called("KroneckerOf", m, other), got, ok, nil, false)
			got, ok = impl.KroneckerOf(other, m)
			wantMatrix(t, called("KroneckerOf", other, m), got, ok, nil, false)
		}
		z, ok := impl.ExcessOf(m)
		wantOne(t, called("ExcessOf", m), z, ok, gauss{}, false)
		size, ok := impl.GreatestExcess(m)
		wantOne(t, called("GreatestExcess", m), size, ok, 0, false)
		z, ok = impl.DeterminantOf(m)
		wantOne(t, called("DeterminantOf", m), z, ok, gauss{}, false)
		pair, ok := impl.FirstPairOfRows(m)
		wantList(t, called("FirstPairOfRows", m), pair, ok, nil, false)
	}
}

// move is a move of matrices, with its numbers.
type move struct {
	name string
	do   func([][]int) ([][]int, bool)
}

// movesOf returns all moves of a matrix of n rows.
func movesOf(n int) []move {
	all := []move{{"TurnedOver", impl.TurnedOver}, {"ConjugateMatrix", impl.ConjugateMatrix}, {"NormalMatrix", impl.NormalMatrix}}
	for i := range n {
		for k := range 4 {
			all = append(all, move{fmt.Sprintf("TurnRow %d, %d", i, k), func(m [][]int) ([][]int, bool) { return impl.TurnRow(m, i, k) }})
			all = append(all, move{fmt.Sprintf("TurnColumn %d, %d", i, k), func(m [][]int) ([][]int, bool) { return impl.TurnColumn(m, i, k) }})
		}
		for j := range n {
			all = append(all, move{fmt.Sprintf("SwapRows %d, %d", i, j), func(m [][]int) ([][]int, bool) { return impl.SwapRows(m, i, j) }})
		}
	}
	return all
}

func TestInnerOf(t *testing.T) {
	for _, c := range []struct {
		m    string
		i, j int
		want gauss
		fine bool
	}{
		{"++ +-", 0, 1, g(0, 0), true},
		{"++ +-", 0, 0, g(2, 0), true},
		{"++ +-", 1, 1, g(2, 0), true},
		{"++ +i", 0, 1, g(1, -1), true},
		{"++ +i", 1, 0, g(1, 1), true},
		{"+i i+", 0, 1, g(0, 0), true},
		{"+i ij", 0, 1, g(-1, -1), true},
		{"+i ij", 1, 0, g(-1, 1), true},
		{"j", 0, 0, g(1, 0), true},
		{"j", 0, 1, gauss{}, false},
		{"j", 1, 0, gauss{}, false},
		{"++ +-", 0, 2, gauss{}, false},
		{"++ +-", 2, 0, gauss{}, false},
		{"++ +-", -1, 0, gauss{}, false},
		{"++ +-", 0, -1, gauss{}, false},
		{"+++ iii ++-", 0, 1, g(0, -3), true},
		{"+++ iii ++-", 2, 1, g(0, -1), true},
		{"+++ iii ++-", 1, 2, g(0, 1), true},
	} {
		z, ok := impl.InnerOf(rowsOf(c.m), c.i, c.j)
		wantOne(t, called("InnerOf", c.m, c.i, c.j), z, ok, c.want, c.fine)
	}
}

// TestRowsAreSummed holds what is told of any matrix against the inner products of its rows and the sum of its values.
func TestRowsAreSummed(t *testing.T) {
	for _, m := range slices.Concat(someMatrices(), nearHadamards()) {
		var sum gauss
		for i := range m {
			for j := range m {
				z, ok := impl.InnerOf(m, i, j)
				wantOne(t, called("InnerOf", m, i, j), z, ok, innerSum(m[i], m[j]), true)
				sum = plus(sum, turned(g(1, 0), m[i][j]))
			}
			for _, bad := range notIndices(len(m)) {
				z, ok := impl.InnerOf(m, i, bad)
				wantOne(t, called("InnerOf", m, i, bad), z, ok, gauss{}, false)
				z, ok = impl.InnerOf(m, bad, i)
				wantOne(t, called("InnerOf", m, bad, i), z, ok, gauss{}, false)
				z, ok = impl.InnerOf(m, bad, bad)
				wantOne(t, called("InnerOf", m, bad, bad), z, ok, gauss{}, false)
			}
		}
		z, ok := impl.ExcessOf(m)
		wantOne(t, called("ExcessOf", m), z, ok, sum, true)
		first := firstPairIn(m)
		is, ok := impl.IsHadamard(m)
		wantOne(t, called("IsHadamard", m), is, ok, first == nil, true)
		pair, ok := impl.FirstPairOfRows(m)
		wantList(t, called("FirstPairOfRows", m), pair, ok, first, first != nil)
	}
}

func TestIsHadamard(t *testing.T) {
	for text, want := range map[string]bool{
		"+":                   true,
		"j":                   true,
		"++ +-":               true,
		"+i i+":               true,
		"++ ++":               false,
		"++ +i":               false,
		"+i +i":               false,
		"++ ii":               false,
		"++ --":               false,
		"+++ +++ +++":         false,
		"+++ +i- +-i":         false,
		"++++ +-+- ++-- +--+": true,
		"++++ +i-j +-+- +j-i": true,
		"++++ +i-j +-+- +j-+": false,
		"++++ +-+- ++-- ++--": false,
		"++++ +-+- ++-- ii++": false,
		"++++ +-+- ++-- iijj": false,
		"++++++ +-ijji +i-ijj +ji-ij +jji-i +ijji-": true,
		"++++++ +-ijji +i-ijj +ji-ij +jji-i +ijjij": false,
	} {
		is, ok := impl.IsHadamard(rowsOf(text))
		wantOne(t, called("IsHadamard", text), is, ok, want, true)
	}
	for _, m := range someHadamards() {
		is, ok := impl.IsHadamard(m)
		wantOne(t, called("IsHadamard", m), is, ok, true, true)
	}
}

func TestFourierMatrix(t *testing.T) {
	for n, text := range map[int]string{1: "+", 2: "++ +-", 4: "++++ +i-j +-+- +j-i"} {
		m, ok := impl.FourierMatrix(n)
		wantMatrix(t, called("FourierMatrix", n), m, ok, rowsOf(text), true)
		is, ok := impl.IsHadamard(m)
		wantOne(t, called("IsHadamard of FourierMatrix", n), is, ok, true, true)
	}
	for _, n := range []int{0, 3, 5, 6, 7, 8, 9, 16, 32, -1, -2, -3, -4, -8, 1 << 32, 1<<32 + 1, 1<<32 + 4, 1 << 62, math.MaxInt, math.MinInt, math.MinInt + 1} {
		m, ok := impl.FourierMatrix(n)
		wantMatrix(t, called("FourierMatrix", n), m, ok, nil, false)
	}
}

func TestKroneckerOf(t *testing.T) {
	for _, c := range []struct {
		a, b, want string
	}{
		{"++ +-", "++ +-", "++++ +-+- ++-- +--+"},
		{"++ +i", "+- jj", "+-+- jjjj +-ij jj++"},
		{"+- jj", "++ +i", "++-- +i-j jjjj j+j+"},
		{"i", "j", "+"},
		{"i", "+i -j", "i- j+"},
		{"+i -j", "j", "j+ i-"},
		{"+i -j", "+++ i-j ++i", "+++iii i-j-j+ ++iii- ---jjj j+i+i- --jjj+"},
	} {
		m, ok := impl.KroneckerOf(rowsOf(c.a), rowsOf(c.b))
		wantMatrix(t, called("KroneckerOf", c.a, c.b), m, ok, rowsOf(c.want), true)
	}
}

// TestProductsOfAllSides multiplies matrices of all numbers of rows, those with too many rows of the product among them.
func TestProductsOfAllSides(t *testing.T) {
	for n := 1; n <= impl.MaxSide; n++ {
		for p := 1; p <= impl.MaxSide; p++ {
			for seed := range 6 {
				a, b := mixed(n, seed), mixed(p, seed+6)
				m, ok := impl.KroneckerOf(a, b)
				wantMatrix(t, called("KroneckerOf", a, b), m, ok, productOfMatrices(a, b), n*p <= 8)
			}
		}
	}
}

func TestMoves(t *testing.T) {
	for _, c := range []struct {
		move     string
		m        string
		i, other int
		want     string
	}{
		{"TurnRow", "++ +-", 0, 1, "ii +-"},
		{"TurnRow", "++ +-", 1, 1, "++ ij"},
		{"TurnRow", "++ +-", 1, 0, "++ +-"},
		{"TurnRow", "i", 0, 3, "+"},
		{"TurnColumn", "++ +-", 0, 1, "i+ i-"},
		{"TurnColumn", "++ +-", 1, 3, "+j +i"},
		{"TurnColumn", "++ +-", 1, 0, "++ +-"},
		{"TurnColumn", "j", 0, 2, "i"},
		{"SwapRows", "++ +-", 0, 1, "+- ++"},
		{"SwapRows", "+i- --- jj+", 2, 0, "jj+ --- +i-"},
		{"SwapRows", "+i- --- jj+", 0, 2, "jj+ --- +i-"},
		{"SwapRows", "+i- --- jj+", 1, 1, "+i- --- jj+"},
		{"SwapRows", "i", 0, 0, "i"},
		{"TurnedOver", "+i- --- jj+", 0, 0, "+-j i-j --+"},
		{"TurnedOver", "i", 0, 0, "i"},
		{"ConjugateMatrix", "+i- --- jj+", 0, 0, "+j- --- ii+"},
		{"ConjugateMatrix", "i", 0, 0, "j"},
		{"NormalMatrix", "+i- --- jj+", 0, 0, "+++ +j- +jj"},
		{"NormalMatrix", "ii +-", 0, 0, "++ +-"},
		{"NormalMatrix", "ij -+", 0, 0, "++ ++"},
		{"NormalMatrix", "j", 0, 0, "+"},
	} {
		m := rowsOf(c.m)
		do := map[string]func() ([][]int, bool){
			"TurnRow":         func() ([][]int, bool) { return impl.TurnRow(m, c.i, c.other) },
			"TurnColumn":      func() ([][]int, bool) { return impl.TurnColumn(m, c.i, c.other) },
			"SwapRows":        func() ([][]int, bool) { return impl.SwapRows(m, c.i, c.other) },
			"TurnedOver":      func() ([][]int, bool) { return impl.TurnedOver(m) },
			"ConjugateMatrix": func() ([][]int, bool) { return impl.ConjugateMatrix(m) },
			"NormalMatrix":    func() ([][]int, bool) { return impl.NormalMatrix(m) },
		}
		got, ok := do[c.move]()
		wantMatrix(t, called(c.move, c.m, c.i, c.other), got, ok, rowsOf(c.want), true)
	}
}

// TestMatricesAreMoved holds the moves against the phases of any matrix.
func TestMatricesAreMoved(t *testing.T) {
	for _, m := range someMatrices() {
		n := len(m)
		got, ok := impl.TurnedOver(m)
		wantMatrix(t, called("TurnedOver", m), got, ok, transposed(m), true)
		got, ok = impl.ConjugateMatrix(m)
		wantMatrix(t, called("ConjugateMatrix", m), got, ok, made(n, func(r int, c int) int { return -m[r][c] }), true)
		got, ok = impl.NormalMatrix(m)
		normal := made(n, func(r int, c int) int { return m[r][c] - m[0][c] - m[r][0] + m[0][0] })
		wantMatrix(t, called("NormalMatrix", m), got, ok, normal, true)
		for i := range n {
			for k := range 4 {
				wantTurns(t, m, i, k, true)
			}
			for j := range n {
				wantSwap(t, m, i, j, true)
			}
		}
	}
}

// TestMovesOfBadNumbers gives numbers outside the rows, the columns and the phases.
func TestMovesOfBadNumbers(t *testing.T) {
	for n := 1; n <= impl.MaxSide; n++ {
		m := mixed(n, 0)
		for i := range n {
			for _, bad := range notIndices(n) {
				wantSwap(t, m, i, bad, false)
				wantSwap(t, m, bad, i, false)
				wantSwap(t, m, bad, bad, false)
				wantTurns(t, m, bad, i%4, false)
			}
			for _, bad := range notPhases() {
				wantTurns(t, m, i, bad, false)
				wantTurns(t, m, n, bad, false)
			}
		}
	}
}

// wantTurns fails the test unless TurnRow and TurnColumn turn the row and the column i by k, where that is fine.
func wantTurns(t *testing.T, m [][]int, i int, k int, fine bool) {
	t.Helper()
	turnIf := func(isIn bool) int {
		if isIn {
			return k
		}
		return 0
	}
	got, ok := impl.TurnRow(m, i, k)
	want := made(len(m), func(r int, c int) int { return m[r][c] + turnIf(r == i) })
	wantMatrix(t, called("TurnRow", m, i, k), got, ok, want, fine)
	got, ok = impl.TurnColumn(m, i, k)
	want = made(len(m), func(r int, c int) int { return m[r][c] + turnIf(c == i) })
	wantMatrix(t, called("TurnColumn", m, i, k), got, ok, want, fine)
}

// wantSwap fails the test unless SwapRows exchanges the rows i and j, where that is fine.
func wantSwap(t *testing.T, m [][]int, i int, j int, fine bool) {
	t.Helper()
	want := slices.Clone(m)
	if fine {
		want[i], want[j] = m[j], m[i]
	}
	got, ok := impl.SwapRows(m, i, j)
	wantMatrix(t, called("SwapRows", m, i, j), got, ok, want, fine)
}

// TestHadamardsStay checks that moves leave Hadamard matrices what they are, and others what they are.
func TestHadamardsStay(t *testing.T) {
	for _, m := range someHadamards() {
		wantStays(t, m, true)
	}
	for _, m := range nearHadamards() {
		wantStays(t, m, firstPairIn(m) == nil)
	}
}

// wantStays fails the test unless IsHadamard tells this of a matrix and of what all moves make of it.
func wantStays(t *testing.T, m [][]int, want bool) {
	t.Helper()
	is, ok := impl.IsHadamard(m)
	wantOne(t, called("IsHadamard", m), is, ok, want, true)
	for _, move := range movesOf(len(m)) {
		after, ok := move.do(m)
		if !ok || (firstPairIn(after) == nil) != want {
			t.Error(move.name, m, "makes", after, ok)
		}
		is, ok := impl.IsHadamard(after)
		wantOne(t, called(move.name+", IsHadamard", m), is, ok, want, true)
	}
}

// TestHadamardsMakeHadamards multiplies two Hadamard matrices, and one with one that is none.
func TestHadamardsMakeHadamards(t *testing.T) {
	all := someHadamards()
	others := slices.DeleteFunc(nearHadamards(), func(m [][]int) bool { return len(m) > 4 })
	for _, a := range all {
		for _, b := range all {
			m, ok := impl.KroneckerOf(a, b)
			isShort := len(a)*len(b) <= impl.MaxSide
			wantMatrix(t, called("KroneckerOf", a, b), m, ok, productOfMatrices(a, b), isShort)
			is, ok := impl.IsHadamard(m)
			wantOne(t, called("KroneckerOf, IsHadamard", a, b), is, ok, true, isShort)
		}
		for _, b := range others {
			for _, p := range [][2][][]int{{a, b}, {b, a}} {
				m, ok := impl.KroneckerOf(p[0], p[1])
				isShort := len(a)*len(b) <= impl.MaxSide
				wantMatrix(t, called("KroneckerOf", p), m, ok, productOfMatrices(p[0], p[1]), isShort)
				is, ok := impl.IsHadamard(m)
				wantOne(t, called("KroneckerOf, IsHadamard", p), is, ok, firstPairIn(b) == nil, isShort)
			}
		}
	}
}

func TestFirstPairOfRows(t *testing.T) {
	for _, c := range []struct {
		m    string
		want []int
	}{
		{"++ ++", []int{0, 1}},
		{"++ ii", []int{0, 1}},
		{"++ +j", []int{0, 1}},
		{"+++ ++- +--", []int{0, 1}},
		{"++++ +-+- ++-- ++--", []int{2, 3}},
		{"++++ +-+- ++-- iijj", []int{2, 3}},
		{"++++ +-+- ++-- -+-+", []int{1, 3}},
		{"++++ +-+- ++-- jjjj", []int{0, 3}},
		{"++++ +-+- ijij +--+", []int{1, 2}},
		{"++++ +-+- ---- +--+", []int{0, 2}},
		{"++++ iiii ++-- +--+", []int{0, 1}},
		{"++++ +-+- +-+- ++++", []int{0, 3}},
		{"++++ +-+- ---- -+-+", []int{0, 2}},
		{"++++ +-+- -+-+ ++--", []int{1, 2}},
		{"++", nil},
		{"+", nil},
		{"i", nil},
		{"++ +-", nil},
		{"++++ +-+- ++-- +--+", nil},
		{"++++ +i-j +-+- +j-i", nil},
		{"++++++ +-ijji +i-ijj +ji-ij +jji-i +ijji-", nil},
	} {
		pair, ok := impl.FirstPairOfRows(rowsOf(c.m))
		wantList(t, called("FirstPairOfRows", c.m), pair, ok, c.want, c.want != nil)
	}
}

// TestEachPairOfRows makes each two rows of a matrix of 8 rows the first two that are not orthogonal.
func TestEachPairOfRows(t *testing.T) {
	all := knownHadamards()
	m := all[len(all)-1]
	for i := range m {
		for j := i + 1; j < len(m); j++ {
			for k := range 4 {
				near := slices.Clone(m)
				near[j] = turnedList(m[i], k)
				pair, ok := impl.FirstPairOfRows(near)
				wantList(t, called("FirstPairOfRows", near), pair, ok, []int{i, j}, true)
			}
		}
	}
}

// TestOthersAreRefusedByTwoRows checks that the two rows show that a matrix is no Hadamard matrix, and that none ahead of them do.
func TestOthersAreRefusedByTwoRows(t *testing.T) {
	refused := 0
	for _, m := range slices.Concat(someMatrices(), nearHadamards()) {
		is, _ := impl.IsHadamard(m)
		pair, ok := impl.FirstPairOfRows(m)
		if is == ok || ok && (len(pair) != 2 || pair[0] >= pair[1]) {
			t.Error("FirstPairOfRows", m, "is", pair, ok, "and IsHadamard", is)
			continue
		}
		if !ok {
			continue
		}
		refused++
		for i := range pair[0] + 1 {
			for j := i + 1; j < len(m) && (i < pair[0] || j <= pair[1]); j++ {
				z, ok := impl.InnerOf(m, i, j)
				if !ok || (z != g(0, 0)) != (i == pair[0] && j == pair[1]) {
					t.Error("FirstPairOfRows", m, "is", pair, "and InnerOf", i, j, "is", z, ok)
				}
			}
		}
	}
	if refused < 500 {
		t.Error("there should be more matrices that are refused:", refused)
	}
}

func TestExcessOf(t *testing.T) {
	for text, want := range map[string]gauss{
		"+":                   g(1, 0),
		"j":                   g(0, -1),
		"++ +-":               g(2, 0),
		"+i i+":               g(2, 2),
		"ij -+":               g(0, 0),
		"++++ +i-j +-+- +j-i": g(4, 0),
	} {
		z, ok := impl.ExcessOf(rowsOf(text))
		wantOne(t, called("ExcessOf", text), z, ok, want, true)
	}
	for k, want := range []gauss{g(64, 0), g(0, 64), g(-64, 0), g(0, -64)} {
		m := made(8, func(int, int) int { return k })
		z, ok := impl.ExcessOf(m)
		wantOne(t, called("ExcessOf", m), z, ok, want, true)
	}
}

// greatestExcess tries all turns of rows, one row at a time.
func greatestExcess(m [][]int, sums []gauss) int {
	if len(m) == 0 {
		size := 0
		for _, z := range sums {
			size += max(z.Re, -z.Re) + max(z.Im, -z.Im)
		}
		return size
	}
	greatest := 0
	for k := range 4 {
		next := slices.Clone(sums)
		for c, p := range m[0] {
			next[c] = plus(next[c], turned(g(1, 0), p+k))
		}
		greatest = max(greatest, greatestExcess(m[1:], next))
	}
	return greatest
}

func TestGreatestExcess(t *testing.T) {
	for text, want := range map[string]int{
		"+":                             1,
		"i":                             1,
		"-":                             1,
		"++ +-":                         4,
		"++ ++":                         4,
		"++ +i":                         4,
		"+i i+":                         4,
		"+++ +++ +++":                   9,
		"+++ i++ ++-":                   9,
		"++++ +i-j +-+- +j-i":           10,
		"++++ +-+- ++-- +--+":           10,
		"+++++ +++++ +++++ +++++ +++++": 25,
		"+-+i+ iiiii ++--i jij-+ +i-j+": 19,
	} {
		size, ok := impl.GreatestExcess(rowsOf(text))
		wantOne(t, called("GreatestExcess", text), size, ok, want, true)
	}
	for _, m := range slices.Concat(someMatrices(), nearHadamards()) {
		fine := len(m) <= 5
		want := 0
		if fine {
			want = greatestExcess(m, make([]gauss, len(m)))
		}
		size, ok := impl.GreatestExcess(m)
		wantOne(t, called("GreatestExcess", m), size, ok, want, fine)
	}
}

// TestGreatestExcessStays checks that exchanging and turning rows, and turning columns, leaves it as it is.
func TestGreatestExcessStays(t *testing.T) {
	for n := 1; n <= 5; n++ {
		m := mixed(n, 3)
		size, ok := impl.GreatestExcess(m)
		for _, move := range movesOf(n) {
			if move.name == "TurnedOver" {
				continue
			}
			after, _ := move.do(m)
			again, fine := impl.GreatestExcess(after)
			wantOne(t, called("GreatestExcess of "+move.name, m), again, fine, size, ok)
		}
	}
}

func TestCountHadamard(t *testing.T) {
	for n, want := range map[int]int{1: 4, 2: 64, 3: 0} {
		count, ok := impl.CountHadamard(n)
		wantOne(t, called("CountHadamard", n), count, ok, want, true)
		found := 0
		for _, m := range allMatrices(n) {
			if firstPairIn(m) == nil {
				found++
			}
		}
		wantOne(t, called("CountHadamard by search", n), found, true, count, true)
	}
	for _, n := range []int{0, 4, 5, 6, 8, 9, 16, 31, 32, -1, -2, -3, 1 << 32, 1<<32 + 2, math.MaxInt, math.MinInt, math.MinInt + 1} {
		count, ok := impl.CountHadamard(n)
		wantOne(t, called("CountHadamard", n), count, ok, 0, false)
	}
}

// determinant sums over all choices of one column for each row.
func determinant(m [][]int) gauss {
	var sum gauss
	for _, order := range orders(len(m)) {
		phase := 0
		for i, c := range order {
			phase += m[i][c]
			for _, left := range order[:i] {
				if left > c {
					phase += 2
				}
			}
		}
		sum = plus(sum, turned(g(1, 0), phase))
	}
	return sum
}

func TestDeterminantOf(t *testing.T) {
	for text, want := range map[string]gauss{
		"+":                             g(1, 0),
		"j":                             g(0, -1),
		"++ +-":                         g(-2, 0),
		"+- ++":                         g(2, 0),
		"++ ++":                         g(0, 0),
		"+i i+":                         g(2, 0),
		"++ +i":                         g(-1, 1),
		"+++ ++- +-+":                   g(-4, 0),
		"++++ +-+- ++-- +--+":           g(16, 0),
		"++++ +i-j +-+- +j-i":           g(0, -16),
		"+++++ +++++ ++-i+ +i+++ ii+j+": g(0, 0),
		"+++++ +-+i+ ii-j+ +j+-i -+i++": g(-4, -8),
	} {
		z, ok := impl.DeterminantOf(rowsOf(text))
		wantOne(t, called("DeterminantOf", text), z, ok, want, true)
	}
	for _, m := range slices.Concat(someMatrices(), nearHadamards()) {
		fine := len(m) <= 5
		want := gauss{}
		if fine {
			want = determinant(m)
		}
		z, ok := impl.DeterminantOf(m)
		wantOne(t, called("DeterminantOf", m), z, ok, want, fine)
	}
}

// TestDeterminantsOfHadamards checks that the norm is n^n for just the Hadamard matrices, as no other one reaches it.
func TestDeterminantsOfHadamards(t *testing.T) {
	greatest := []int{1, 1, 4, 27, 256, 3125}
	for _, m := range slices.Concat(someMatrices(), nearHadamards()) {
		if len(m) > 5 {
			continue
		}
		z, ok := impl.DeterminantOf(m)
		size, fine := impl.NormOf(z)
		is, _ := impl.IsHadamard(m)
		if !ok || !fine || size > greatest[len(m)] || (size == greatest[len(m)]) != is {
			t.Error("DeterminantOf", m, "is", z, ok, "and IsHadamard", is)
		}
	}
}

// TestDeterminantsAreMoved turns and exchanges rows and columns.
func TestDeterminantsAreMoved(t *testing.T) {
	for n := 1; n <= 5; n++ {
		for seed := range 4 {
			m := mixed(n, seed)
			z, _ := impl.DeterminantOf(m)
			want := func(call string, after [][]int, want gauss) {
				t.Helper()
				got, ok := impl.DeterminantOf(after)
				wantOne(t, called("DeterminantOf of "+call, m), got, ok, want, true)
			}
			over, _ := impl.TurnedOver(m)
			want("TurnedOver", over, z)
			other, _ := impl.ConjugateMatrix(m)
			want("ConjugateMatrix", other, conjugate(z))
			for i := range n {
				for k := range 4 {
					row, _ := impl.TurnRow(m, i, k)
					want("TurnRow", row, turned(z, k))
					column, _ := impl.TurnColumn(m, i, k)
					want("TurnColumn", column, turned(z, k))
				}
				for j := range i {
					rows, _ := impl.SwapRows(m, i, j)
					want("SwapRows", rows, turned(z, 2))
				}
			}
		}
	}
}

// TestRowsOfOneMemory gives matrices whose rows are the same memory, or parts of it that overlap.
func TestRowsOfOneMemory(t *testing.T) {
	memory := seq("+i-j++-ij+-j+i+-")
	before := slices.Clone(memory)
	for n := 1; n <= impl.MaxSide; n++ {
		for step := range 3 {
			m := make([][]int, n)
			for i := range m {
				from := min(i*step, len(memory)-n)
				m[i] = memory[from : from+n]
			}
			wanted := made(n, func(i int, j int) int { return m[i][j] })
			for _, move := range movesOf(n) {
				want, fine := move.do(wanted)
				got, ok := move.do(m)
				wantMatrix(t, called(move.name, wanted), got, ok, want, fine)
				for i, row := range got {
					clear(row)
					wantMatrix(t, called(move.name, wanted)+", the rows behind one that is cleared,", got[i+1:], ok, want[i+1:], true)
				}
				wantList(t, called(move.name, wanted)+", the memory", memory, ok, before, true)
			}
			product, ok := impl.KroneckerOf(m, m)
			wantMatrix(t, called("KroneckerOf", wanted), product, ok, productOfMatrices(wanted, wanted), n*n <= impl.MaxSide)
			wantList(t, called("KroneckerOf", wanted)+", the memory", memory, true, before, true)
		}
	}
}
