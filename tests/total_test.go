package tests

import (
	"fmt"
	"math"
	"reflect"
	"slices"
	"strconv"
	"strings"
	"testing"

	"loop.example/g01177/impl"
)

// The tests of promise 11: each function accepts all arguments and modifies none of them.

// phaseFunctions has all functions of chapter 1.
func phaseFunctions() map[string]any {
	return map[string]any{
		"IsGauss": impl.IsGauss, "PlusGauss": impl.PlusGauss, "TimesGauss": impl.TimesGauss,
		"ConjugateGauss": impl.ConjugateGauss, "NormOf": impl.NormOf, "PhaseValue": impl.PhaseValue,
		"IsSequence": impl.IsSequence, "TurnBy": impl.TurnBy, "ConjugateOf": impl.ConjugateOf,
		"BackwardsOf": impl.BackwardsOf, "ShiftBy": impl.ShiftBy, "ClimbBy": impl.ClimbBy,
		"AlternateOf": impl.AlternateOf, "SumOf": impl.SumOf, "JoinOf": impl.JoinOf,
		"InterleaveOf": impl.InterleaveOf, "ProductOf": impl.ProductOf, "SequenceText": impl.SequenceText,
		"ParseSequence": impl.ParseSequence, "SequenceWith": impl.SequenceWith, "RankOf": impl.RankOf,
		"GaussText": impl.GaussText,
	}
}

// corrFunctions has all functions of chapter 2.
func corrFunctions() map[string]any {
	return map[string]any{
		"AperiodicAt": impl.AperiodicAt, "PeriodicAt": impl.PeriodicAt, "OwnCorrelations": impl.OwnCorrelations,
		"PeriodicCorrelations": impl.PeriodicCorrelations, "CrossCorrelations": impl.CrossCorrelations,
		"SideEnergy": impl.SideEnergy, "MeritOf": impl.MeritOf, "PeakSide": impl.PeakSide, "IsBarker": impl.IsBarker,
		"CountBarker": impl.CountBarker, "FirstBarker": impl.FirstBarker, "ValueAtRoot": impl.ValueAtRoot,
		"PowerAtRoots": impl.PowerAtRoots, "LeastEnergy": impl.LeastEnergy,
	}
}

// golayFunctions has all functions of chapter 3.
func golayFunctions() map[string]any {
	return map[string]any{
		"IsGolay": impl.IsGolay, "PairSums": impl.PairSums, "CountGolay": impl.CountGolay, "FirstGolay": impl.FirstGolay,
		"JoinPair": impl.JoinPair, "InterleavePair": impl.InterleavePair, "MateOf": impl.MateOf, "AreMates": impl.AreMates,
		"JoinMates": impl.JoinMates, "StandardPair": impl.StandardPair, "CountStandard": impl.CountStandard,
		"SquaresOf": impl.SquaresOf, "MovedPair": impl.MovedPair,
	}
}

// hadamardFunctions has all functions of chapter 4.
func hadamardFunctions() map[string]any {
	return map[string]any{
		"IsMatrix": impl.IsMatrix, "InnerOf": impl.InnerOf, "IsHadamard": impl.IsHadamard, "FourierMatrix": impl.FourierMatrix,
		"KroneckerOf": impl.KroneckerOf, "TurnedOver": impl.TurnedOver, "ConjugateMatrix": impl.ConjugateMatrix,
		"TurnRow": impl.TurnRow, "SwapRows": impl.SwapRows, "TurnColumn": impl.TurnColumn, "NormalMatrix": impl.NormalMatrix,
		"ExcessOf": impl.ExcessOf, "GreatestExcess": impl.GreatestExcess, "CountHadamard": impl.CountHadamard,
		"DeterminantOf": impl.DeterminantOf, "FirstPairOfRows": impl.FirstPairOfRows,
	}
}

// transformFunctions has all functions of chapter 5.
func transformFunctions() map[string]any {
	return map[string]any{
		"TransformOf": impl.TransformOf, "TransformBack": impl.TransformBack, "TransformStep": impl.TransformStep,
		"TransformOfSequence": impl.TransformOfSequence, "EnergyOf": impl.EnergyOf, "ConvolveOf": impl.ConvolveOf,
		"CorrelateOf": impl.CorrelateOf, "MoveOf": impl.MoveOf, "WaveOf": impl.WaveOf, "IsFlat": impl.IsFlat,
		"CountFlat": impl.CountFlat, "DualOf": impl.DualOf, "WalshOf": impl.WalshOf, "WalshBack": impl.WalshBack,
	}
}

// perfectFunctions has all functions of chapter 6.
func perfectFunctions() map[string]any {
	return map[string]any{
		"IsPerfect": impl.IsPerfect, "CountPerfect": impl.CountPerfect, "AllPerfect": impl.AllPerfect, "FirstPerfect": impl.FirstPerfect,
		"FrankOf": impl.FrankOf, "IsArray": impl.IsArray, "ArrayAt": impl.ArrayAt, "IsPerfectArray": impl.IsPerfectArray,
		"OuterArray": impl.OuterArray, "FoldOf": impl.FoldOf, "UnfoldOf": impl.UnfoldOf, "CountPerfectArrays": impl.CountPerfectArrays,
		"ShiftArray": impl.ShiftArray, "ShiftMatrix": impl.ShiftMatrix,
	}
}

// modemFunctions has all functions of chapter 7.
func modemFunctions() map[string]any {
	return map[string]any{
		"ModulateBits": impl.ModulateBits, "DemodulatePhases": impl.DemodulatePhases, "StepsOf": impl.StepsOf, "FromSteps": impl.FromSteps,
		"NearestPhase": impl.NearestPhase, "DecideOf": impl.DecideOf, "PointsOf": impl.PointsOf, "TurnPoints": impl.TurnPoints,
		"BestTurn": impl.BestTurn, "FindFrame": impl.FindFrame, "AllFrames": impl.AllFrames, "SendFrame": impl.SendFrame,
		"ReceiveFrame": impl.ReceiveFrame, "ErrorsOf": impl.ErrorsOf, "MixPhases": impl.MixPhases,
	}
}

// spreadFunctions has all functions of chapter 8.
func spreadFunctions() map[string]any {
	return map[string]any{
		"AreCodes": impl.AreCodes, "AreOrthogonal": impl.AreOrthogonal, "SpreadOf": impl.SpreadOf, "MatchOf": impl.MatchOf,
		"GatherOf": impl.GatherOf, "DelayedOf": impl.DelayedOf, "AddSignals": impl.AddSignals, "FilterOf": impl.FilterOf,
		"FindDelay": impl.FindDelay, "PeakOf": impl.PeakOf, "DisturbanceOf": impl.DisturbanceOf, "GreatestSet": impl.GreatestSet,
		"ExtendCodes": impl.ExtendCodes,
	}
}

// classFunctions has all functions of chapter 9.
func classFunctions() map[string]any {
	return map[string]any{
		"IsMove": impl.IsMove, "ApplyMove": impl.ApplyMove, "MoveBack": impl.MoveBack, "OrbitOf": impl.OrbitOf, "LeastOf": impl.LeastOf,
		"AreEquivalent": impl.AreEquivalent, "MoveBetween": impl.MoveBetween, "KeepersOf": impl.KeepersOf,
		"CountClasses": impl.CountClasses, "ClassHeads": impl.ClassHeads, "CountFixed": impl.CountFixed, "SizesOf": impl.SizesOf,
		"ClassEnergies": impl.ClassEnergies,
	}
}

// consoleFunctions has all functions of chapter 10.
func consoleFunctions() map[string]any {
	return map[string]any{
		"FirstDesk": impl.FirstDesk, "IsDesk": impl.IsDesk, "DeskLine": impl.DeskLine, "RunScript": impl.RunScript,
		"DeskAfter": impl.DeskAfter, "FailedLines": impl.FailedLines,
	}
}

// room is memory in which an argument lies, with what lies around it: numbers, rows that are parts of them, and Gaussian numbers.
type room struct {
	numbers []int
	rows    [][]int
	gausses []gauss
}

func (r room) copied() room {
	return room{slices.Clone(r.numbers), slices.Clone(r.rows), slices.Clone(r.gausses)}
}

// isAs tells whether memory is as it was when it was copied: the same numbers, and rows that are the same parts.
func (r room) isAs(before room) bool {
	return slices.Equal(r.numbers, before.numbers) && slices.EqualFunc(r.rows, before.rows, isSamePart) && slices.Equal(r.gausses, before.gausses)
}

func isSamePart(a []int, b []int) bool {
	if len(a) != len(b) || cap(a) != cap(b) || (a == nil) != (b == nil) {
		return false
	}
	return cap(a) == 0 || &a[:1][0] == &b[:1][0]
}

// argument is one of the arguments to try: make lays it in memory with marks around it, and tells that memory.
type argument struct {
	make func(mark int) (value reflect.Value, memory room)
}

// plain is an argument without memory that a call could change.
func plain(value any) argument {
	return argument{func(int) (reflect.Value, room) { return reflect.ValueOf(value), room{} }}
}

// marked returns memory with a list in it, and the list: marks lie ahead of it and in the room behind its length.
func marked[T any](list []T, mark T) (memory []T, inside []T) {
	memory = slices.Clip(slices.Concat(slices.Repeat([]T{mark}, 3), list, slices.Repeat([]T{mark}, impl.MaxLength+8)))
	return memory, memory[3 : 3+len(list)]
}

// list is a list with marks around it.
func list(s []int) argument {
	return argument{func(mark int) (reflect.Value, room) {
		memory, inside := marked(s, mark)
		return reflect.ValueOf(inside), room{numbers: memory}
	}}
}

// gaussList is a list of Gaussian numbers with marks around it.
func gaussList(z []gauss) argument {
	return argument{func(mark int) (reflect.Value, room) {
		memory, inside := marked(z, g(mark, -mark))
		return reflect.ValueOf(inside), room{gausses: memory}
	}}
}

// cut is where a row begins and ends in numbers; the row nil has less than 0 as both.
type cut struct {
	from int
	to   int
}

// cutRows is a matrix whose rows are parts of numbers, each with the room behind it, with marks in all places that are in no row, and rows of marks ahead of the first row and in the room behind the last one.
func cutRows(numbers []int, cuts []cut) argument {
	return argument{func(mark int) (reflect.Value, room) {
		memory := repeated(mark, len(numbers)+2*impl.MaxSide)
		marked := memory[len(numbers)+impl.MaxSide:][:min(len(cuts), impl.MaxSide)]
		rows := [][]int{marked, marked}
		for _, c := range cuts {
			if c.from < 0 {
				rows = append(rows, nil)
				continue
			}
			copy(memory[c.from:], numbers[c.from:c.to])
			rows = append(rows, memory[c.from:c.to])
		}
		rows = slices.Clip(append(rows, slices.Repeat([][]int{marked}, impl.MaxSide+1)...))
		return reflect.ValueOf(rows[2 : 2+len(cuts)]), room{numbers: memory, rows: rows}
	}}
}

// rows is a matrix whose rows lie apart.
func rows(m [][]int) argument {
	numbers := repeated(0, 2)
	var cuts []cut
	for _, row := range m {
		if row == nil {
			cuts = append(cuts, cut{-1, -1})
			continue
		}
		cuts = append(cuts, cut{len(numbers), len(numbers) + len(row)})
		numbers = slices.Concat(numbers, row, repeated(0, 2))
	}
	return cutRows(numbers, cuts)
}

// overlappingRows is a matrix or an array, each of whose rows begins so many numbers behind the one above it.
func overlappingRows(rows int, columns int, step int) argument {
	var cuts []cut
	for i := range rows {
		cuts = append(cuts, cut{step * i, step*i + columns})
	}
	return cutRows(rising(columns+step*rows), cuts)
}

// desk is a desk whose sequences are parts of numbers, each with the room behind it, with marks around them.
func desk(numbers []int, a cut, b cut) argument {
	return argument{func(mark int) (reflect.Value, room) {
		memory, inside := marked(repeated(mark, len(numbers)), mark)
		part := func(c cut) []int {
			if c.from < 0 {
				return nil
			}
			copy(inside[c.from:], numbers[c.from:c.to])
			return inside[c.from:c.to]
		}
		return reflect.ValueOf(impl.Desk{A: part(a), B: part(b)}), room{numbers: memory}
	}}
}

// apart is a desk whose sequences lie apart, B in the room behind A.
func apart(a []int, b []int) argument {
	cutOf := func(list []int, from int) cut {
		if list == nil {
			return cut{-1, -1}
		}
		return cut{from, from + len(list)}
	}
	return desk(slices.Concat(a, repeated(0, 2), b), cutOf(a, 0), cutOf(b, len(a)+2))
}

func numberArguments() []argument {
	var all []argument
	for _, n := range []int{
		math.MinInt, math.MinInt + 1, math.MinInt32, -impl.MaxPart, -1001, -1000, -33, -32, -5, -4, -1, 0, 1, 2, 3, 4, 5, 6, 7, 8, 9, 14, 15, 16, 31, 32, 33,
		62, 63, 64, 65, 66, 255, 256, 999, 1000, 1001, impl.MaxPart, 1<<30 - 1, 1 << 30, 1 << 32, 1 << 62, math.MaxInt - 1, math.MaxInt,
	} {
		all = append(all, plain(n))
	}
	return all
}

func gaussArguments() []argument {
	var all []argument
	parts := []int{math.MinInt, -impl.MaxPart - 1, -impl.MaxPart, -1, 0, 1, 1000, impl.MaxPart, impl.MaxPart + 1, 1 << 32, math.MaxInt}
	for _, re := range parts {
		for _, im := range parts {
			all = append(all, plain(g(re, im)))
		}
	}
	return all
}

// fewGaussArguments has numbers of each kind for functions of so many parameters that all choices of gaussArguments would take too long.
func fewGaussArguments() []argument {
	var all []argument
	for _, z := range []gauss{g(0, 0), g(1, 0), g(-3, 2), g(impl.MaxPart, -impl.MaxPart), g(impl.MaxPart+1, 0), g(0, -impl.MaxPart-1), g(math.MinInt, math.MaxInt), g(1, 1<<32)} {
		all = append(all, plain(z))
	}
	return all
}

func textArguments() []argument {
	texts := []string{
		"", "0", "00", "+i-j", "+0", " +", "+\n", "\x00", "+\x00i", "\xff\xfe", "i\xc3", "\u2212", "ij,", "3-2i",
		strings.Repeat("+", 32), strings.Repeat("j", 33), strings.Repeat("-", 32) + "0", strings.Repeat("i", 100000),
	}
	texts = append(texts, lineTexts()...)
	for b := range 256 {
		texts = append(texts, string([]byte{byte(b)}), string([]byte{'+', byte(b)}))
	}
	var all []argument
	for _, text := range texts {
		all = append(all, plain(text))
	}
	return all
}

// lineTexts has lines of every row of the console's table, others, and scripts of them.
func lineTexts() []string {
	lines := append(plainNames(), "a +i-j", "a 0", "b jj", "b 0", "turn 1", "turn 0", "turn 1001", "climb 3", "climb 4", "shift 2", "shift 999999", "join 0", "join 3", "join 4", "bits 0,1,1,1", "bits 1", "a "+textFor(rising(32)), "b "+textFor(rising(33)), "bits "+bitsText(64, 0), "bits "+bitsText(66, 0))
	texts := append(slices.Clone(lines), "fly", "turn", "turn 01", "turn 1000000", "turn 9223372036854775808", "a", "a  +", "a \x00", "b \xff", "bits ", "bits 0,,1", "swap ", " swap", "  ", "show\r")
	texts = append(texts, scriptOf(lines...), scriptOf(lines[:8]...), scriptOf(texts...), scriptOf("", "fly", ""), "show", "show\nshow", "\n\n\n", strings.Repeat("\n", impl.MaxLines), strings.Repeat("\n", impl.MaxLines+1))
	for seed := range 10 {
		texts = append(texts, scriptOf(mixedLines(5*seed+1, seed)...))
	}
	for n := impl.MaxScript - 1; n <= impl.MaxScript+2; n++ {
		texts = append(texts, strings.Repeat("x", n), strings.Repeat("x", n-1)+"\n", "swap\n"+strings.Repeat(" ", n-6)+"\n", "a "+strings.Repeat("+", n-2), "bits 0"+strings.Repeat(",0", n/2-3))
	}
	return texts
}

// deskArguments has desks with sequences that lie apart and ones that share memory, nil and empty lists, and lists that are no sequences.
func deskArguments() []argument {
	all := []argument{plain(impl.Desk{}), plain(impl.FirstDesk())}
	for _, p := range [][2][]int{
		{nil, {}}, {{}, nil}, {{}, {}}, {nil, {0}}, {{3}, nil}, {{}, {1, 2}}, {{1}, {2}}, {{0, 0}, {0, 2}}, {{0, 0}, {0, 0}}, {{0, 1, 2}, {3}}, {{1}, {0, 1, 2}}, {{0, 1, 3}, {1, 1, 3}}, {{0, 0, 0, 2}, {0, 0, 2, 0}},
		{rising(15), rising(15)}, {rising(16), rising(16)}, {rising(16), rising(15)}, {rising(17), rising(17)}, {rising(32), rising(32)}, {rising(32), nil}, {nil, rising(32)}, {mixedPhases(32, 0), mixedPhases(31, 0)},
		{{4}, {0}}, {{0}, {4}}, {{-1}, nil}, {nil, {-1}}, {{0, math.MaxInt}, {0, 0}}, {{0, 0}, {math.MinInt, 0}}, {rising(33), {0}}, {{0}, rising(33)}, {rising(33), rising(33)}, {rising(1000), nil}, {nil, rising(1000)}, {repeated(-1, 2000), repeated(4, 2000)}, {append(rising(31), 4), rising(32)}, {rising(32), append(rising(31), -1)},
	} {
		all = append(all, apart(p[0], p[1]))
	}
	for _, n := range []int{1, 2, 7, 15, 32} {
		numbers := mixedPhases(n, 0)
		all = append(all, desk(numbers, cut{0, n}, cut{0, n}), desk(numbers, cut{0, n}, cut{n / 2, n}), desk(numbers, cut{0, n / 2}, cut{0, n}), desk(numbers, cut{0, n / 2}, cut{n / 2, n}), desk(numbers, cut{n / 2, n}, cut{0, n / 2}))
	}
	return all
}

func listArguments() []argument {
	all := []argument{plain([]int(nil))}
	for _, s := range [][]int{
		{}, {0}, {1}, {2}, {3}, {4}, {-1}, {math.MinInt}, {math.MaxInt}, {0, 1, 2, 3}, {3, 3, 1, 0, 2}, {0, 1, 2, 4}, {0, -1, 2, 3},
		{math.MaxInt, math.MaxInt, math.MinInt}, rising(15), rising(16), rising(17), rising(31), rising(32), rising(33), rising(1000),
		repeated(3, 32), append(rising(31), 4), append(rising(31), -1), repeated(math.MaxInt, 33), repeated(-1, 2000),
		repeated(2, 15), repeated(1, 16), {1, 0}, {2, 0, 1}, {0, 0, 2}, {4, 2, 0, 1, 3}, {4, 5, 3, 2, 1, 0}, {math.MaxInt, 0},
		{3, 0, 2, 1}, rising(6), rising(8), rising(9), {0, 0, 0, 2}, {0, 0, 0, -2}, {0, 0, 0, 1, 2, 0, 2, 1},
		{0, 1}, {1, 1, 0, 1}, mixedBits(32, 0), mixedBits(63, 0), mixedBits(64, 0), mixedBits(64, 1), append(mixedBits(63, 0), 2), append(mixedBits(63, 0), -1), mixedBits(65, 0), mixedBits(66, 0),
		{0, 0, 0, 0}, {3, 3, 1, 1}, {1, 2, 0, 1}, {0, 0, 1, 0}, {4, 0, 0, 0}, {0, -1, 0, 0}, {0, 0, 2, 0}, {0, 0, 0, math.MinInt}, {math.MaxInt, 0, 1, 1}, {3, 3, 1}, {1, 1, 1, 1, 1}, mixedPhases(7, 0), mixedPhases(15, 0), folds(15, 0)[2],
	} {
		all = append(all, list(s))
	}
	return all
}

// fewListArguments has lists of each kind for functions of so many lists that all choices of listArguments would take too long.
func fewListArguments() []argument {
	all := []argument{plain([]int(nil))}
	for _, s := range [][]int{
		{}, {2}, {4}, {math.MinInt, math.MaxInt}, {0, 0}, {0, 2}, {1, -1}, {2, 0}, {2, 2}, rising(16), repeated(3, 16), rising(17), rising(33), repeated(-1, 2000),
	} {
		all = append(all, list(s))
	}
	return all
}

func matrixArguments() []argument {
	all := []argument{plain([][]int(nil))}
	for _, m := range [][][]int{
		{}, {nil}, {{}}, {nil, nil}, {{0}}, {{3}}, {{4}}, {{-1}}, {{math.MinInt}}, {{math.MaxInt}}, {{0}, nil}, {nil, {0, 0}}, {{0, 0}}, {{0}, {0}},
		{{0, 0}, {0, 2}}, {{1, 1}, {1, 1}}, {{0, 0}, {0}}, {{0}, {0, 0}}, {{0, 0}, {0, 0, 0}}, {{0, 4}, {0, 0}}, {{0, 0}, {math.MaxInt, 0}}, {{0, 0}, {0, math.MinInt}},
		mixed(3, 0), mixed(4, 0), rowsOf("++++ +i-j +-+- +j-i"), mixed(5, 0), mixed(6, 0), mixed(8, 0), mixed(9, 0), mixed(33, 0), mixed(9, 0)[:8], append(mixed(8, 0), repeated(0, 8)),
		append(mixed(7, 0)[:6], repeated(0, 8)), append(mixed(8, 0)[:7], repeated(-1, 8)), append(mixed(8, 0)[:7], nil), append(mixed(8, 0)[:7], rising(1000)), {rising(1000)},
		make([][]int, 8), make([][]int, 1000), slices.Repeat([][]int{{0}}, 1000), slices.Repeat([][]int{rising(8)}, 9),
		rowsOf("+++-"), rowsOf("+ i"), rowsOf("++- jii"), rowsOf("+j +i -i"), rowsOf("+++- +i-i"), rowsOf("+i- j+"), {{0, 1, 2}, nil}, {{0, 1, 2}, {0, 1, 4}},
		mixedArray(1, 8, 0), mixedArray(8, 1, 0), mixedArray(1, 9, 0), mixedArray(9, 1, 0), mixedArray(4, 8, 0), mixedArray(5, 6, 0), mixedArray(5, 7, 0), mixedArray(8, 7, 0), mixedArray(8, 9, 0),
		mixedArray(4, 1, 0), mixedArray(5, 1, 0), walshCodes(2), walshCodes(8)[:4], walshCodes(8)[:5], walshCodes(16)[:4], walshCodes(16)[:9], walshCodes(32)[:8], mixedArray(8, 32, 0), mixedArray(9, 32, 0), mixedArray(2, 33, 0), {nil, rising(32)}, append(mixedArray(7, 32, 0), rising(31)), append(mixedArray(7, 32, 0), append(rising(31), 4)),
	} {
		all = append(all, rows(m))
	}
	for _, n := range []int{2, 4, 8, 9} {
		all = append(all, overlappingRows(n, n, 0), overlappingRows(n, n, 1), overlappingRows(n, n, n-1), overlappingRows(n, 3, 0), overlappingRows(n, 3, 1), overlappingRows(n, 32, 0), overlappingRows(n, 32, 1))
	}
	return all
}

// gaussListArguments has signals of all chapters, with frames and without, lists of all lengths near theirs and of overlong ones, and lists with parts at each limit and past it.
func gaussListArguments() []argument {
	all := []argument{plain([]gauss(nil)), gaussList([]gauss{})}
	for n := 1; n <= 34; n++ {
		all = append(all, gaussList(mixedNumbers(n, 0, 9)))
	}
	for _, n := range []int{35, 46, 47, 48, 49, 50, 63, 64, 65} {
		all = append(all, gaussList(mixedNumbers(n, 0, 9)), gaussList(onRays(rising(n))), gaussList(rayPoints(n, 0)), gaussList(onRays(repeated(3, n))))
	}
	for _, n := range []int{1, 33, 47, 48, 64} {
		for i, bad := range notGauss() {
			all = append(all, gaussList(changed(onRays(rising(n)), n-1-i%n, bad)))
		}
	}
	for _, n := range []int{63, 64, 65, 256, 1000} {
		all = append(all, gaussList(make([]gauss, n)), gaussList(slices.Repeat([]gauss{g(math.MinInt, math.MaxInt)}, n)))
	}
	for _, n := range walshLengths() {
		for _, size := range []int{1, 1000, most / n} {
			all = append(all, gaussList(withOne(n, g(0, 0), n-1, g(n, size))), gaussList(slices.Repeat([]gauss{g(size, -size)}, n)))
		}
		all = append(all, gaussList(forward(mixedNumbers(n, 1, 9))), gaussList(walsh(mixedNumbers(n, 2, 9))))
		for i, bad := range notGauss() {
			all = append(all, gaussList(withOne(n, g(1, 0), i%n, bad)), gaussList(slices.Repeat([]gauss{bad}, n)))
		}
	}
	return all
}

// argumentsOf returns the arguments to try for a type of parameter.
func argumentsOf(t *testing.T, kind reflect.Type) []argument {
	switch kind {
	case reflect.TypeFor[int]():
		return numberArguments()
	case reflect.TypeFor[string]():
		return textArguments()
	case reflect.TypeFor[gauss]():
		return gaussArguments()
	case reflect.TypeFor[[]int]():
		return listArguments()
	case reflect.TypeFor[[][]int]():
		return matrixArguments()
	case reflect.TypeFor[[]gauss]():
		return gaussListArguments()
	case reflect.TypeFor[impl.Desk]():
		return deskArguments()
	}
	t.Fatal("no arguments for", kind)
	return nil
}

// eachChoice calls do with each choice of one argument for each parameter.
func eachChoice(pools [][]argument, chosen []argument, do func([]argument)) {
	if len(pools) == 0 {
		do(chosen)
		return
	}
	for _, a := range pools[0] {
		eachChoice(pools[1:], append(slices.Clone(chosen), a), do)
	}
}

// callWith calls a function with arguments laid in memory with this mark, and checks what the call leaves behind.
func callWith(t *testing.T, name string, f reflect.Value, arguments []argument, mark int) string {
	t.Helper()
	var values []reflect.Value
	var memories, before []room
	for _, a := range arguments {
		value, memory := a.make(mark)
		values = append(values, value)
		memories = append(memories, memory)
		before = append(before, memory.copied())
	}
	call := func() string { return shortText(name, values) }
	defer func() {
		if r := recover(); r != nil {
			t.Errorf("%s panics: %v", call(), r)
		}
	}()
	results := f.Call(values)
	told := fmt.Sprint(plainValues(append(results, lists(results)...))...) // the room behind the lists, too: nothing from behind an argument may lie there
	isKept := func() bool { return slices.EqualFunc(memories, before, room.isAs) }
	if !isKept() {
		t.Errorf("%s changes an argument", call())
	}
	checkZeroes(t, call, results)
	overwrite(t, call, lists(results))
	if !isKept() {
		t.Errorf("%s gives out memory of an argument", call())
	}
	return told
}

// checkZeroes checks that a call that fails returns nothing beside its false.
func checkZeroes(t *testing.T, call func() string, results []reflect.Value) {
	t.Helper()
	last := len(results) - 1
	if last == 0 || results[last].Kind() != reflect.Bool || results[last].Bool() {
		return
	}
	for _, r := range results[:last] {
		if !r.IsZero() && !(r.Kind() == reflect.Slice && r.Len() == 0) {
			t.Errorf("%s fails and returns %v", call(), r)
		}
	}
}

// lists returns all lists among the results and in them, with the room behind their lengths, and the rows of each ahead of it.
func lists(results []reflect.Value) []reflect.Value {
	var all []reflect.Value
	for _, r := range results {
		if r.Kind() == reflect.Struct {
			for i := range r.NumField() {
				all = append(all, lists([]reflect.Value{r.Field(i)})...)
			}
		}
		if r.Kind() != reflect.Slice {
			continue
		}
		if r.Type().Elem().Kind() == reflect.Slice {
			for i := range r.Len() {
				all = append(all, lists([]reflect.Value{r.Index(i)})...)
			}
		}
		all = append(all, r.Slice(0, r.Cap()))
	}
	return all
}

// filled returns a value of a type that has a number in each place.
func filled(t *testing.T, kind reflect.Type, number int) reflect.Value {
	v := reflect.New(kind).Elem()
	switch kind.Kind() {
	case reflect.Int:
		v.SetInt(int64(number))
	case reflect.String:
		v.SetString(strconv.Itoa(number))
	case reflect.Struct:
		for i := range v.NumField() {
			v.Field(i).Set(filled(t, kind.Field(i).Type, number))
		}
	case reflect.Slice:
		v.Set(reflect.Append(v, filled(t, kind.Elem(), number)))
	default:
		t.Fatal("no value to write over", kind)
	}
	return v
}

// overwrite writes through each list, in the room behind its length too, and checks that no other one changes with it.
func overwrite(t *testing.T, call func() string, all []reflect.Value) {
	t.Helper()
	for i, s := range all {
		for j := range s.Len() {
			s.Index(j).Set(filled(t, s.Type().Elem(), -1000-i))
		}
	}
	for i, s := range all {
		for j := range s.Len() {
			if !isSameValue(s.Index(j), filled(t, s.Type().Elem(), -1000-i)) {
				t.Errorf("%s returns two lists that share memory", call())
			}
		}
	}
}

func isSameValue(a reflect.Value, b reflect.Value) bool {
	if a.Comparable() {
		return a.Equal(b)
	}
	return reflect.DeepEqual(a.Interface(), b.Interface())
}

func plainValues(values []reflect.Value) []any {
	var all []any
	for _, v := range values {
		all = append(all, v.Interface())
	}
	return all
}

func shortText(name string, values []reflect.Value) string {
	text := called(name, plainValues(values)...)
	return text[:min(len(text), 300)]
}

// probe tries a function with all choices of arguments. Neither what lies around them nor an earlier call may change a result.
func probe(t *testing.T, name string, function any) {
	f := reflect.ValueOf(function)
	var pools [][]argument
	for i := range f.Type().NumIn() {
		kind := f.Type().In(i)
		switch isLong := f.Type().NumIn() > 3; {
		case isLong && kind == reflect.TypeFor[[]int]():
			pools = append(pools, fewListArguments())
		case isLong && kind == reflect.TypeFor[gauss]():
			pools = append(pools, fewGaussArguments())
		default:
			pools = append(pools, argumentsOf(t, kind))
		}
	}
	eachChoice(pools, nil, func(arguments []argument) {
		if t.Failed() { // the texts of all calls that fail would take minutes
			return
		}
		first := callWith(t, name, f, arguments, 1)
		second := callWith(t, name, f, arguments, -77)
		if first != second {
			t.Errorf("%s returns %s and then %s for the same arguments", name, first, second)
		}
	})
}

// probeAll tries all functions of a chapter side by side, as each of them takes its time.
func probeAll(t *testing.T, functions map[string]any) {
	for name, f := range functions {
		t.Run(name, func(t *testing.T) {
			t.Parallel()
			probe(t, name, f)
		})
	}
}

func TestPhaseFunctionsAcceptAll(t *testing.T) {
	probeAll(t, phaseFunctions())
}

func TestCorrFunctionsAcceptAll(t *testing.T) {
	probeAll(t, corrFunctions())
}

func TestGolayFunctionsAcceptAll(t *testing.T) {
	probeAll(t, golayFunctions())
}

func TestHadamardFunctionsAcceptAll(t *testing.T) {
	probeAll(t, hadamardFunctions())
}

func TestTransformFunctionsAcceptAll(t *testing.T) {
	probeAll(t, transformFunctions())
}

func TestPerfectFunctionsAcceptAll(t *testing.T) {
	probeAll(t, perfectFunctions())
}

func TestModemFunctionsAcceptAll(t *testing.T) {
	probeAll(t, modemFunctions())
}

func TestSpreadFunctionsAcceptAll(t *testing.T) {
	probeAll(t, spreadFunctions())
}

func TestClassFunctionsAcceptAll(t *testing.T) {
	probeAll(t, classFunctions())
}

func TestConsoleFunctionsAcceptAll(t *testing.T) {
	probeAll(t, consoleFunctions())
}
