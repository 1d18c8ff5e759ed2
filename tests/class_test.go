package tests

import (
	"fmt"
	"math"
	"slices"
	"testing"

	"loop.example/g01177/impl"
)

// The tests of promise 9: chapter 9, equivalences.

// mostRanked is the greatest number of phases of a sequence that is moved.
const mostRanked = 15

// keep is the move that leaves all sequences as they are.
func keep() []int {
	return []int{0, 0, 0, 0}
}

// allMoves returns all moves, in lexicographic order.
func allMoves() [][]int {
	var all [][]int
	for k := range 4 {
		for l := range 4 {
			for _, sides := range [][]int{{0, 0}, {0, 1}, {1, 0}, {1, 1}} {
				all = append(all, append([]int{k, l}, sides...))
			}
		}
	}
	return all
}

// movedBy tells each phase that a move makes by the one from which it comes.
func movedBy(s []int, m []int) []int {
	made := make([]int, len(s))
	for i := range s {
		from := s[i]
		if m[3] == 1 {
			from = s[len(s)-1-i]
		}
		if m[2] == 1 {
			from = 4 - from
		}
		made[i] = (from + m[1]*i + m[0]) % 4
	}
	return made
}

// movesFrom returns all moves that make t of s, in lexicographic order.
func movesFrom(s []int, t []int) [][]int {
	var all [][]int
	for _, m := range allMoves() {
		if slices.Equal(movedBy(s, m), t) {
			all = append(all, m)
		}
	}
	return all
}

// orbit returns all that moves make of a sequence, in lexicographic order.
func orbit(s []int) [][]int {
	var all [][]int
	for _, m := range allMoves() {
		all = append(all, movedBy(s, m))
	}
	slices.SortFunc(all, slices.Compare[[]int])
	return slices.CompactFunc(all, slices.Equal[[]int])
}

// sizes returns the norms of all own correlations of a sequence.
func sizes(s []int) []int {
	if len(s) == 0 {
		return nil
	}
	return append([]int{len(s) * len(s)}, sideNorms(s)...)
}

// heads returns the first sequence of each orbit of sequences of n phases: each that is in no orbit of one ahead of it.
func heads(n int) [][]int {
	var all [][]int
	seen := map[string]bool{}
	for _, s := range sequencesOf(n) {
		if seen[fmt.Sprint(s)] {
			continue
		}
		all = append(all, s)
		for _, t := range orbit(s) {
			seen[fmt.Sprint(t)] = true
		}
	}
	return all
}

// folds returns sequences of n phases that some moves leave as they are: with both halves alike, with the two real phases alone, with both, and with halves that are conjugates.
func folds(n int, seed int) [][]int {
	s := mixedPhases(n, seed)
	alike, real, both, opposite := make([]int, n), make([]int, n), make([]int, n), make([]int, n)
	for i := range n {
		j := n - 1 - i
		near := s[min(i, j)]
		alike[i], real[i], both[i], opposite[i] = near, s[i]/2*2, near/2*2, near
		if i > j {
			opposite[i] = (4 - near) % 4
		}
		if i == j {
			opposite[i] = near / 2 * 2
		}
	}
	return [][]int{alike, real, both, opposite}
}

// rankedSequences returns all sequences of at most 4 phases and some of each length up to the greatest one, with orbits of all sizes.
func rankedSequences() [][]int {
	all := allSequences(4)
	for n := 5; n <= mostRanked; n++ {
		all = append(all, rising(n), repeated(n%4, n), append(repeated(0, n-1), 1), mixedPhases(n, 0), mixedPhases(n, 1))
		for _, s := range folds(n, 2) {
			all = append(all, s, movedBy(s, allMoves()[(7*n)%64]), movedBy(s, allMoves()[(11*n+5)%64]))
		}
	}
	return all
}

// notRanked returns lists that are no sequences, and sequences of too many phases.
func notRanked() [][]int {
	all := badPhases()
	for n := mostRanked + 1; n <= impl.MaxLength; n++ {
		all = append(all, repeated(n%4, n), rising(n), mixedPhases(n, 0))
	}
	return all
}

// notMoves returns lists that are no moves: with other numbers, or not four of them.
func notMoves() [][]int {
	all := [][]int{nil, {}, {0}, {0, 0}, {0, 0, 0}, {3, 3, 1}, {0, 0, 0, 0, 0}, {3, 3, 1, 1, 1}, {1, 1, 1, 1, 1, 1}, {0, 0, 0, 0, 4}, {0, 0, 0, 0, math.MinInt}, repeated(0, 16), repeated(1, 64), repeated(0, 1000)}
	for i := range 4 {
		for _, other := range notPhases() {
			for _, m := range [][]int{keep(), {3, 3, 1, 1}, {1, 2, 0, 1}} {
				all = append(all, changed(m, i, other))
			}
		}
	}
	for i := 2; i < 4; i++ {
		for _, m := range allMoves() {
			all = append(all, changed(m, i, 2), changed(m, i, 3))
		}
	}
	return append(all, repeated(math.MaxInt, 4), repeated(math.MinInt, 4), repeated(-1, 4), repeated(4, 4), repeated(2, 4))
}

func TestLimitOfClasses(t *testing.T) {
	if impl.MaxClass != 5 {
		t.Error("the limit is", impl.MaxClass)
	}
}

func TestIsMove(t *testing.T) {
	for _, m := range allMoves() {
		if !impl.IsMove(m) {
			t.Errorf("%v should be a move", m)
		}
	}
	for _, m := range notMoves() {
		if impl.IsMove(m) {
			t.Errorf("%v should be no move", m)
		}
	}
}

// TestFourNumbers tries all lists of four numbers up to one outside of what is allowed.
func TestFourNumbers(t *testing.T) {
	count := 0
	for x := range 6 * 6 * 6 * 6 {
		m := []int{x%6 - 1, x/6%6 - 1, x/36%6 - 1, x/216 - 1}
		is := impl.IsMove(m)
		wantOne(t, called("IsMove", m), is, true, slices.ContainsFunc(allMoves(), func(n []int) bool { return slices.Equal(m, n) }), true)
		if is {
			count++
		}
	}
	wantOne(t, "the number of moves", count, true, 64, true)
}

// madeMoves has what some moves make, found by hand.
func madeMoves() []struct {
	from string
	by   []int
	to   string
} {
	return []struct {
		from string
		by   []int
		to   string
	}{
		{"+i", []int{1, 0, 0, 0}, "i-"}, // the document's example
		{"", []int{0, 0, 0, 0}, ""}, {"", []int{3, 2, 1, 1}, ""},
		{"i", []int{0, 0, 0, 0}, "i"}, {"i", []int{0, 3, 0, 1}, "i"}, {"i", []int{0, 0, 1, 0}, "j"}, {"i", []int{1, 0, 1, 0}, "+"}, {"j", []int{2, 1, 0, 1}, "i"},
		{"++ij", []int{0, 0, 0, 0}, "++ij"},
		{"++ij", []int{1, 0, 0, 0}, "ii-+"}, {"++ij", []int{2, 0, 0, 0}, "--ji"}, {"++ij", []int{3, 0, 0, 0}, "jj+-"},
		{"++ij", []int{0, 1, 0, 0}, "+ij-"}, {"++ij", []int{0, 2, 0, 0}, "+-ii"}, {"++ij", []int{0, 3, 0, 0}, "+jj+"},
		{"++ij", []int{0, 0, 1, 0}, "++ji"}, {"++ij", []int{0, 0, 0, 1}, "ji++"}, {"++ij", []int{0, 0, 1, 1}, "ij++"},
		{"++ij", []int{0, 1, 0, 1}, "j--j"}, // backwards first: climbing first would make -ji+
		{"++ij", []int{0, 1, 1, 0}, "+ii+"}, // the conjugates first: climbing first would make +ji-
		{"++ij", []int{1, 0, 1, 0}, "ii+-"}, // the conjugates first: turning first would make jj-+
		{"++ij", []int{2, 0, 0, 1}, "ij--"}, {"++ij", []int{1, 1, 1, 1}, "-ij+"}, {"++ij", []int{3, 3, 1, 1}, "+ii+"},
		{"+++++++++++++++", []int{0, 1, 0, 0}, "+i-j+i-j+i-j+i-"}, {"+++++++++++++i-", []int{1, 0, 1, 1}, "j+iiiiiiiiiiiii"},
	}
}

func TestApplyMove(t *testing.T) {
	for _, c := range madeMoves() {
		s, ok := impl.ApplyMove(seq(c.from), c.by)
		wantList(t, called("ApplyMove", c.from, c.by), s, ok, seq(c.to), true)
	}
	for _, s := range rankedSequences() {
		for _, m := range allMoves() {
			moved, ok := impl.ApplyMove(s, m)
			wantList(t, called("ApplyMove", s, m), moved, ok, movedBy(s, m), true)
		}
	}
}

// TestMovesAreSteps takes the four steps of a move with the functions of chapter 1.
func TestMovesAreSteps(t *testing.T) {
	for _, s := range rankedSequences() {
		for _, m := range allMoves() {
			want := s
			if m[2] == 1 {
				want = must(t, "ConjugateOf")(impl.ConjugateOf(want))
			}
			if m[3] == 1 {
				want = must(t, "BackwardsOf")(impl.BackwardsOf(want))
			}
			want = must(t, "ClimbBy")(impl.ClimbBy(want, m[1]))
			want = must(t, "TurnBy")(impl.TurnBy(want, m[0]))
			moved, ok := impl.ApplyMove(s, m)
			wantList(t, called("ApplyMove", s, m), moved, ok, want, true)
		}
	}
}

func TestMoveBack(t *testing.T) {
	for _, c := range madeMoves() {
		s, ok := impl.MoveBack(seq(c.to), c.by)
		wantList(t, called("MoveBack", c.to, c.by), s, ok, seq(c.from), true)
	}
	for _, m := range allMoves() {
		for n := range 4 {
			for _, s := range sequencesOf(n) {
				makes := func(x []int) bool { return slices.Equal(movedBy(x, m), s) }
				from := slices.DeleteFunc(sequencesOf(n), func(x []int) bool { return !makes(x) })
				wantOne(t, called("the sequences moved to", s, m), len(from), true, 1, true)
				back, ok := impl.MoveBack(s, m)
				wantList(t, called("MoveBack", s, m), back, ok, from[0], true)
			}
		}
	}
}

// TestMoveBackUndoes moves there and back, and back and there.
func TestMoveBackUndoes(t *testing.T) {
	for _, s := range rankedSequences() {
		for _, m := range allMoves() {
			there := must(t, "ApplyMove")(impl.ApplyMove(s, m))
			back, ok := impl.MoveBack(there, m)
			wantList(t, called("MoveBack", there, m), back, ok, s, true)
			back = must(t, "MoveBack")(impl.MoveBack(s, m))
			there, ok = impl.ApplyMove(back, m)
			wantList(t, called("ApplyMove", back, m), there, ok, s, true)
		}
	}
}

func TestOrbitOf(t *testing.T) {
	for _, c := range []struct {
		s    []int
		want [][]int
	}{
		{nil, [][]int{{}}},
		{seq("+"), [][]int{{0}, {1}, {2}, {3}}}, {seq("j"), [][]int{{0}, {1}, {2}, {3}}},
		{seq("++"), sequencesOf(2)}, {seq("ij"), sequencesOf(2)}, // the document's example
		{seq("+++"), rowsOf("+++ +i- +-+ +j- i+j iii i-j iji -+- -i+ --- -j+ j+i jij j-i jjj")},
		{seq("i-j"), rowsOf("+++ +i- +-+ +j- i+j iii i-j iji -+- -i+ --- -j+ j+i jij j-i jjj")},
	} {
		all, ok := impl.OrbitOf(c.s)
		wantMatrix(t, called("OrbitOf", c.s), all, ok, c.want, true)
	}
	found := map[int]bool{}
	for _, s := range rankedSequences() {
		all, ok := impl.OrbitOf(s)
		wantMatrix(t, called("OrbitOf", s), all, ok, orbit(s), true)
		found[len(all)] = true
	}
	for _, size := range []int{1, 4, 16, 32, 64} {
		if !found[size] {
			t.Error("no orbit has", size, "sequences")
		}
	}
	wantOne(t, "the number of sizes", len(found), true, 5, true)
}

// TestOrbitsAreClasses finds the same orbit from each of its sequences, in the order of ranks, with its least one first.
func TestOrbitsAreClasses(t *testing.T) {
	for n := 5; n <= mostRanked; n++ {
		for _, s := range append(folds(n, 4), mixedPhases(n, 5)) {
			all, ok := impl.OrbitOf(s)
			wantMatrix(t, called("OrbitOf", s), all, ok, orbit(s), true)
			before := -1
			for _, other := range all {
				again, ok := impl.OrbitOf(other)
				wantMatrix(t, called("OrbitOf", other), again, ok, all, true)
				least, ok := impl.LeastOf(other)
				wantList(t, called("LeastOf", other), least, ok, all[0], true)
				rank, ok := impl.RankOf(other)
				wantOne(t, called("RankOf", other), rank > before, ok, true, true)
				before = rank
			}
		}
	}
}

func TestLeastOf(t *testing.T) {
	for _, c := range []struct {
		s    string
		want string
	}{
		{"", ""}, {"+", "+"}, {"i", "+"}, {"-", "+"}, {"j", "+"}, {"++", "++"}, {"+i", "++"}, {"j+", "++"},
		{"+++", "+++"}, {"i-j", "+++"}, {"++i", "++i"}, {"++j", "++i"}, {"i++", "++i"}, {"++-", "++-"}, {"-++", "++-"},
		{"++i+", "++i+"}, {"+i++", "++i+"}, {"+++++++++++++++", "+++++++++++++++"}, {"+i-j+i-j+i-j+i-", "+++++++++++++++"}, {"jjjjjjjjjjjjjj+", "++++++++++++++i"},
	} {
		s, ok := impl.LeastOf(seq(c.s))
		wantList(t, called("LeastOf", c.s), s, ok, seq(c.want), true)
	}
	for _, s := range rankedSequences() {
		least, ok := impl.LeastOf(s)
		wantList(t, called("LeastOf", s), least, ok, orbit(s)[0], true)
		again, ok := impl.LeastOf(least)
		wantList(t, called("LeastOf", least), again, ok, least, true)
	}
}

// TestLeastDecides compares the least sequences of all pairs of short sequences with whether a move leads from one to the other.
func TestLeastDecides(t *testing.T) {
	all := allSequences(3)
	for _, a := range all {
		for _, b := range all {
			leastA, okA := impl.LeastOf(a)
			leastB, okB := impl.LeastOf(b)
			moved := len(movesFrom(a, b)) > 0
			wantOne(t, called("LeastOf", a, b), slices.Equal(leastA, leastB), okA && okB, moved, true)
			are, ok := impl.AreEquivalent(a, b)
			wantOne(t, called("AreEquivalent", a, b), are, ok, moved, true)
		}
	}
}

func TestAreEquivalent(t *testing.T) {
	for _, c := range []struct {
		a    string
		b    string
		want bool
	}{
		{"", "", true}, {"+", "+", true}, {"+", "j", true}, {"++", "ji", true}, {"+++", "+i-", true}, {"+++", "++i", false}, {"++i", "++-", false},
		{"++i", "++j", true}, {"++i+", "+i++", true}, {"++i+", "+++i", false}, {"+++-", "++-+", true}, {"+++-", "++--", false},
		{"", "+", false}, {"+", "", false}, {"+", "++", false}, {"++", "+++", false}, {"+++", "++", false}, {"+++++++++++++++", "++++++++++++++", false},
		{"+++++++++++++++", "-i+j-i+j-i+j-i+", true}, {"+++++++++++++++", "-j+i-j+i-j+i-j+", true}, {"+++++++++++++++", "-i+j-i+j-i+j-i-", false},
	} {
		are, ok := impl.AreEquivalent(seq(c.a), seq(c.b))
		wantOne(t, called("AreEquivalent", c.a, c.b), are, ok, c.want, true)
	}
	for _, s := range rankedSequences() {
		for _, m := range allMoves() {
			are, ok := impl.AreEquivalent(s, movedBy(s, m))
			wantOne(t, called("AreEquivalent", s, movedBy(s, m)), are, ok, true, true)
		}
	}
}

// TestOthersAreNotEquivalent compares sequences with others that differ from what moves make of them, and with longer and shorter ones.
func TestOthersAreNotEquivalent(t *testing.T) {
	for _, s := range rankedSequences() {
		for i := range s {
			for k := range 4 {
				other := movedBy(changed(s, i, k), allMoves()[(13*i+5*k+len(s))%64])
				are, ok := impl.AreEquivalent(s, other)
				wantOne(t, called("AreEquivalent", s, other), are, ok, len(movesFrom(s, other)) > 0, true)
			}
			are, ok := impl.AreEquivalent(s, s[:i])
			wantOne(t, called("AreEquivalent", s, s[:i]), are, ok, false, true)
			are, ok = impl.AreEquivalent(s[:i], s)
			wantOne(t, called("AreEquivalent", s[:i], s), are, ok, false, true)
		}
	}
}

func TestMoveBetween(t *testing.T) {
	for _, c := range []struct {
		a    string
		b    string
		want []int
		fine bool
	}{
		{"", "", []int{0, 0, 0, 0}, true}, {"+", "+", []int{0, 0, 0, 0}, true}, {"+", "i", []int{1, 0, 0, 0}, true}, {"i", "j", []int{0, 0, 1, 0}, true}, {"i", "-", []int{1, 0, 0, 0}, true},
		{"++", "++", []int{0, 0, 0, 0}, true}, {"++", "+i", []int{0, 1, 0, 0}, true}, {"++", "--", []int{2, 0, 0, 0}, true}, {"++", "j+", []int{3, 1, 0, 0}, true},
		{"+i", "i-", []int{0, 2, 0, 1}, true}, // 1 0 0 0 makes the same, but comes later
		{"+i", "i+", []int{0, 0, 0, 1}, true}, {"+i", "j+", []int{0, 0, 1, 1}, true}, {"+i", "+j", []int{0, 0, 1, 0}, true},
		{"++ij", "-ij+", []int{1, 1, 1, 1}, true},
		{"+++", "++i", nil, false}, {"++i", "+++", nil, false}, {"+++-", "++-+", []int{2, 2, 0, 1}, true}, {"+++-", "++--", nil, false}, {"", "+", nil, false}, {"+", "", nil, false}, {"++", "+++", nil, false}, {"+++", "++", nil, false},
	} {
		m, ok := impl.MoveBetween(seq(c.a), seq(c.b))
		wantList(t, called("MoveBetween", c.a, c.b), m, ok, c.want, c.fine)
	}
}

// TestFirstMoves finds the first move between all pairs of short sequences, and between each of others and what all moves make of it.
func TestFirstMoves(t *testing.T) {
	first := func(a []int, b []int) ([]int, bool) {
		moves := append(movesFrom(a, b), nil)
		return moves[0], len(moves) > 1
	}
	all := allSequences(3)
	for _, a := range all {
		for _, b := range all {
			m, ok := impl.MoveBetween(a, b)
			want, fine := first(a, b)
			wantList(t, called("MoveBetween", a, b), m, ok, want, fine)
		}
	}
	for _, a := range rankedSequences() {
		for x, m := range allMoves() {
			b := movedBy(a, m)
			between, ok := impl.MoveBetween(a, b)
			want, _ := first(a, b)
			wantList(t, called("MoveBetween", a, b), between, ok, want, true)
			moved, ok := impl.ApplyMove(a, between)
			wantList(t, called("ApplyMove", a, between), moved, ok, b, true)
			if len(a) > 0 {
				other := changed(b, x%len(b), 3-b[x%len(b)])
				between, ok = impl.MoveBetween(a, other)
				want, fine := first(a, other)
				wantList(t, called("MoveBetween", a, other), between, ok, want, fine)
				between, ok = impl.MoveBetween(a, b[1:])
				wantList(t, called("MoveBetween", a, b[1:]), between, ok, nil, false)
			}
		}
	}
}

func TestKeepersOf(t *testing.T) {
	for _, c := range []struct {
		s    string
		want [][]int
	}{
		{"", allMoves()},
		{"+", [][]int{
			{0, 0, 0, 0}, {0, 0, 0, 1}, {0, 0, 1, 0}, {0, 0, 1, 1}, {0, 1, 0, 0}, {0, 1, 0, 1}, {0, 1, 1, 0}, {0, 1, 1, 1},
			{0, 2, 0, 0}, {0, 2, 0, 1}, {0, 2, 1, 0}, {0, 2, 1, 1}, {0, 3, 0, 0}, {0, 3, 0, 1}, {0, 3, 1, 0}, {0, 3, 1, 1},
		}},
		{"i", [][]int{
			{0, 0, 0, 0}, {0, 0, 0, 1}, {0, 1, 0, 0}, {0, 1, 0, 1}, {0, 2, 0, 0}, {0, 2, 0, 1}, {0, 3, 0, 0}, {0, 3, 0, 1},
			{2, 0, 1, 0}, {2, 0, 1, 1}, {2, 1, 1, 0}, {2, 1, 1, 1}, {2, 2, 1, 0}, {2, 2, 1, 1}, {2, 3, 1, 0}, {2, 3, 1, 1},
		}},
		{"++", [][]int{{0, 0, 0, 0}, {0, 0, 0, 1}, {0, 0, 1, 0}, {0, 0, 1, 1}}},
		{"+i", [][]int{{0, 0, 0, 0}, {0, 2, 1, 0}, {1, 0, 1, 1}, {3, 2, 0, 1}}},
		{"+++-", [][]int{{0, 0, 0, 0}, {0, 0, 1, 0}}},
		{"++ij", [][]int{{0, 0, 0, 0}, {1, 2, 0, 1}}},
		{"+++i", [][]int{{0, 0, 0, 0}}},
		{"++++++++++++++i", [][]int{{0, 0, 0, 0}}},
	} {
		all, ok := impl.KeepersOf(seq(c.s))
		wantMatrix(t, called("KeepersOf", c.s), all, ok, c.want, true)
	}
	found := map[int]bool{}
	for _, s := range rankedSequences() {
		all, ok := impl.KeepersOf(s)
		wantMatrix(t, called("KeepersOf", s), all, ok, movesFrom(s, s), true)
		found[len(all)] = true
	}
	for _, count := range []int{64, 16, 4, 2, 1} {
		if !found[count] {
			t.Error("no sequence has", count, "keepers")
		}
	}
}

// TestOrbitsAndKeepersAreSixtyFour multiplies the numbers of both.
func TestOrbitsAndKeepersAreSixtyFour(t *testing.T) {
	for _, s := range append(rankedSequences(), sequencesOf(5)...) {
		all, orbits := impl.OrbitOf(s)
		keepers, kept := impl.KeepersOf(s)
		wantOne(t, called("the numbers of both for", s), len(all)*len(keepers), orbits && kept, 64, true)
	}
}

func TestCountClasses(t *testing.T) {
	for n, want := range []int{1, 1, 1, 3, 7, 24} {
		count, ok := impl.CountClasses(n)
		wantOne(t, called("CountClasses", n), count, ok, want, true)
		wantOne(t, called("the classes found of", n), len(heads(n)), true, want, true)
	}
	for _, n := range notIn(0, impl.MaxClass) {
		count, ok := impl.CountClasses(n)
		wantOne(t, called("CountClasses", n), count, ok, 0, false)
	}
}

func TestClassHeads(t *testing.T) {
	for n, want := range [][][]int{
		{{}}, rowsOf("+"), rowsOf("++"), rowsOf("+++ ++i ++-"), rowsOf("++++ +++i +++- ++i+ ++ii ++ij ++--"),
	} {
		all, ok := impl.ClassHeads(n)
		wantMatrix(t, called("ClassHeads", n), all, ok, want, true)
		wantMatrix(t, called("the heads found of", n), heads(n), true, want, true)
	}
	for _, n := range notIn(0, 4) {
		all, ok := impl.ClassHeads(n)
		wantMatrix(t, called("ClassHeads", n), all, ok, nil, false)
	}
}

// TestHeadsDecideClasses finds each sequence in the class of just one head, which is the least one there.
func TestHeadsDecideClasses(t *testing.T) {
	for n := range 5 {
		all, ok := impl.ClassHeads(n)
		count, counted := impl.CountClasses(n)
		wantOne(t, called("the number of ClassHeads", n), len(all), ok && counted, count, true)
		members := 0
		for _, head := range all {
			class, ok := impl.OrbitOf(head)
			wantMatrix(t, called("OrbitOf", head), class, ok, orbit(head), true)
			wantList(t, called("the least of", head), class[0], true, head, true)
			members += len(class)
			for _, other := range all {
				are, ok := impl.AreEquivalent(head, other)
				wantOne(t, called("AreEquivalent", head, other), are, ok, slices.Equal(head, other), true)
			}
		}
		wantOne(t, called("the number of all in classes of", n), members, true, 1<<(2*n), true)
		for _, s := range sequencesOf(n) {
			least, ok := impl.LeastOf(s)
			isHead := slices.ContainsFunc(all, func(head []int) bool { return slices.Equal(head, least) })
			wantOne(t, called("a head as LeastOf", s), isHead, ok, true, true)
		}
	}
}

// TestClassesAreAlways lists classes many times: the order in which they are found is not to be seen.
func TestClassesAreAlways(t *testing.T) {
	for n := range 5 {
		all := heads(n)
		for range 50 {
			again, ok := impl.ClassHeads(n)
			wantMatrix(t, called("ClassHeads", n), again, ok, all, true)
			count, ok := impl.CountClasses(n)
			wantOne(t, called("CountClasses", n), count, ok, len(all), true)
			class, ok := impl.OrbitOf(all[len(all)-1])
			wantMatrix(t, called("OrbitOf", all[len(all)-1]), class, ok, orbit(all[len(all)-1]), true)
		}
	}
}

func TestCountFixed(t *testing.T) {
	for _, c := range []struct {
		m    []int
		want []int // for 0, 1, .., 5 phases
	}{
		{[]int{0, 0, 0, 0}, []int{1, 4, 16, 64, 256, 1024}},
		{[]int{1, 0, 0, 0}, []int{1, 0, 0, 0, 0, 0}}, {[]int{2, 0, 0, 0}, []int{1, 0, 0, 0, 0, 0}}, {[]int{3, 3, 0, 0}, []int{1, 0, 0, 0, 0, 0}},
		{[]int{0, 1, 0, 0}, []int{1, 4, 0, 0, 0, 0}}, {[]int{0, 2, 0, 0}, []int{1, 4, 0, 0, 0, 0}},
		{[]int{0, 0, 1, 0}, []int{1, 2, 4, 8, 16, 32}}, {[]int{2, 0, 1, 0}, []int{1, 2, 4, 8, 16, 32}}, {[]int{1, 0, 1, 0}, []int{1, 0, 0, 0, 0, 0}}, {[]int{0, 2, 1, 0}, []int{1, 2, 4, 8, 16, 32}},
		{[]int{0, 0, 0, 1}, []int{1, 4, 4, 16, 16, 64}}, {[]int{0, 0, 1, 1}, []int{1, 2, 4, 8, 16, 32}}, {[]int{1, 0, 1, 1}, []int{1, 0, 4, 0, 16, 0}},
	} {
		for n, want := range c.want {
			count, ok := impl.CountFixed(n, c.m)
			wantOne(t, called("CountFixed", n, c.m), count, ok, want, true)
		}
	}
	for n := range impl.MaxClass + 1 {
		all := sequencesOf(n)
		for _, m := range allMoves() {
			want := 0
			for _, s := range all {
				if slices.Equal(movedBy(s, m), s) {
					want++
				}
			}
			count, ok := impl.CountFixed(n, m)
			wantOne(t, called("CountFixed", n, m), count, ok, want, true)
		}
	}
	for _, n := range notIn(0, impl.MaxClass) {
		for _, m := range append(allMoves(), notMoves()...) {
			count, ok := impl.CountFixed(n, m)
			wantOne(t, called("CountFixed", n, m), count, ok, 0, false)
		}
	}
	for n := range impl.MaxClass + 1 {
		for _, m := range notMoves() {
			count, ok := impl.CountFixed(n, m)
			wantOne(t, called("CountFixed", n, m), count, ok, 0, false)
		}
	}
}

// TestFixedAndClassesAgree sums over all moves.
func TestFixedAndClassesAgree(t *testing.T) {
	for n := range impl.MaxClass + 1 {
		sum := 0
		for _, m := range allMoves() {
			count, ok := impl.CountFixed(n, m)
			wantOne(t, called("CountFixed", n, m), ok, true, true, true)
			sum += count
		}
		classes, ok := impl.CountClasses(n)
		wantOne(t, called("the sum for", n), sum, ok, 64*classes, true)
	}
}

func TestSizesOf(t *testing.T) {
	for _, c := range []struct {
		s    string
		want []int
	}{
		{"", nil}, {"j", []int{1}}, {"+i", []int{4, 1}}, {"++-", []int{9, 0, 1}}, {"++++", []int{16, 9, 4, 1}}, {"++i", []int{9, 2, 1}},
		{"+++++++++++++++", []int{225, 196, 169, 144, 121, 100, 81, 64, 49, 36, 25, 16, 9, 4, 1}},
	} {
		all, ok := impl.SizesOf(seq(c.s))
		wantList(t, called("SizesOf", c.s), all, ok, c.want, true)
	}
	for _, s := range rankedSequences() {
		all, ok := impl.SizesOf(s)
		wantList(t, called("SizesOf", s), all, ok, sizes(s), true)
		own, ok := impl.OwnCorrelations(s)
		wantOne(t, called("OwnCorrelations", s), len(own), ok, len(all), true)
		for u, z := range own {
			wantOne(t, called("SizesOf", s, u), all[u], true, norm(z), true)
		}
	}
}

// TestSizesOfEquivalentSequences compares those of a sequence and of all that moves make of it.
func TestSizesOfEquivalentSequences(t *testing.T) {
	for _, s := range rankedSequences() {
		want := sizes(s)
		for _, m := range allMoves() {
			moved := must(t, "ApplyMove")(impl.ApplyMove(s, m))
			all, ok := impl.SizesOf(moved)
			wantList(t, called("SizesOf", moved), all, ok, want, true)
		}
	}
}

func TestClassEnergies(t *testing.T) {
	for n, want := range [][]int{{0}, {0}, {1}, {5, 3, 1}, {14, 8, 2, 4, 10, 2, 6}} {
		all, ok := impl.ClassEnergies(n)
		wantList(t, called("ClassEnergies", n), all, ok, want, true)
		var energies []int
		for _, head := range heads(n) {
			energies = append(energies, total(sideNorms(head)))
		}
		wantList(t, called("the energies of heads of", n), energies, true, want, true)
	}
	for _, n := range notIn(0, 4) {
		all, ok := impl.ClassEnergies(n)
		wantList(t, called("ClassEnergies", n), all, ok, nil, false)
	}
}

// TestNoMoves gives lists that are no moves to each function that requires one.
func TestNoMoves(t *testing.T) {
	for _, bad := range notMoves() {
		for n := range mostRanked + 1 {
			s, ok := impl.ApplyMove(rising(n), bad)
			wantList(t, called("ApplyMove", rising(n), bad), s, ok, nil, false)
			s, ok = impl.MoveBack(rising(n), bad)
			wantList(t, called("MoveBack", rising(n), bad), s, ok, nil, false)
		}
	}
}

// TestNoSequencesToMove gives lists that are no sequences of at most 15 phases to each function that requires one.
func TestNoSequencesToMove(t *testing.T) {
	for _, bad := range notRanked() {
		for _, m := range append(allMoves(), nil, []int{0, 0, 0, 2}) {
			s, ok := impl.ApplyMove(bad, m)
			wantList(t, called("ApplyMove", bad, m), s, ok, nil, false)
			s, ok = impl.MoveBack(bad, m)
			wantList(t, called("MoveBack", bad, m), s, ok, nil, false)
		}
		all, ok := impl.OrbitOf(bad)
		wantMatrix(t, called("OrbitOf", bad), all, ok, nil, false)
		all, ok = impl.KeepersOf(bad)
		wantMatrix(t, called("KeepersOf", bad), all, ok, nil, false)
		s, ok := impl.LeastOf(bad)
		wantList(t, called("LeastOf", bad), s, ok, nil, false)
		s, ok = impl.SizesOf(bad)
		wantList(t, called("SizesOf", bad), s, ok, nil, false)
		for _, other := range [][]int{nil, {0}, rising(min(len(bad), mostRanked)), repeated(0, mostRanked), bad} {
			are, ok := impl.AreEquivalent(bad, other)
			wantOne(t, called("AreEquivalent", bad, other), are, ok, false, false)
			are, ok = impl.AreEquivalent(other, bad)
			wantOne(t, called("AreEquivalent", other, bad), are, ok, false, false)
			m, ok := impl.MoveBetween(bad, other)
			wantList(t, called("MoveBetween", bad, other), m, ok, nil, false)
			m, ok = impl.MoveBetween(other, bad)
			wantList(t, called("MoveBetween", other, bad), m, ok, nil, false)
		}
	}
}

// TestMovesOfOneMemory gives sequences and moves that are parts of one memory, which overlap or are the same.
func TestMovesOfOneMemory(t *testing.T) {
	memory := []int{1, 0, 1, 1, 0, 1, 1, 1, 0, 0, 1, 0, 1, 3, 2, 3, 0, 2, 1, 1, 3, 2}
	before := slices.Clone(memory)
	for n := range mostRanked + 1 {
		for from := range 5 {
			s, m := memory[from:from+n], memory[4-from:8-from]
			moved, ok := impl.ApplyMove(s, m)
			wantList(t, called("ApplyMove", s, m), moved, ok, movedBy(s, m), true)
			back, ok := impl.MoveBack(moved, m)
			wantList(t, called("MoveBack", moved, m), back, ok, s, true)
			clear(moved)
			clear(back)
			other := memory[2*from%5:][:n]
			are, ok := impl.AreEquivalent(s, other)
			wantOne(t, called("AreEquivalent", s, other), are, ok, len(movesFrom(s, other)) > 0, true)
			between, ok := impl.MoveBetween(s, s)
			wantList(t, called("MoveBetween", s, s), between, ok, keep(), true)
			clear(between)
			all, _ := impl.OrbitOf(s)
			keepers, _ := impl.KeepersOf(s)
			for _, list := range slices.Concat(all, keepers) {
				clear(list[:cap(list)])
			}
			wantList(t, "the memory", memory, true, before, true)
		}
	}
}
