package tests

import (
	"fmt"
	"slices"
	"strings"
	"testing"

	"loop.example/g01177/impl"
)

// seq reads a sequence on its own, so that no test relies on ParseSequence; "" is the empty one.
func seq(text string) []int {
	s := []int{}
	for i := range len(text) {
		s = append(s, strings.IndexByte("+i-j", text[i]))
	}
	return s
}

// repeated returns n times the number k.
func repeated(k int, n int) []int {
	return slices.Repeat([]int{k}, n)
}

// rising returns n phases 0, 1, 2, 3, 0, 1 and so on.
func rising(n int) []int {
	s := make([]int, n)
	for i := range s {
		s[i] = i % 4
	}
	return s
}

// allSequences returns all sequences of at most n phases.
func allSequences(n int) [][]int {
	all := [][]int{{}}
	last := all
	for range n {
		var next [][]int
		for _, s := range last {
			for k := range 4 {
				next = append(next, append(slices.Clone(s), k))
			}
		}
		all = append(all, next...)
		last = next
	}
	return all
}

// someSequences returns all short sequences and some up to the greatest length.
func someSequences() [][]int {
	all := allSequences(4)
	for n := 5; n <= impl.MaxLength; n++ {
		mixed := make([]int, n)
		for i := range mixed {
			mixed[i] = (i*i*i + 2*i*n + i/3) % 4
		}
		all = append(all, rising(n), repeated(n%4, n), mixed)
	}
	return all
}

// madeArray returns rows that have at(i, j), modulo 4, in the row i and the column j.
func madeArray(rows int, columns int, at func(i int, j int) int) [][]int {
	m := make([][]int, rows)
	for i := range m {
		for j := range columns {
			m[i] = append(m[i], (at(i, j)%4+4)%4)
		}
	}
	return m
}

// mixedArray returns rows without a simple order, other ones for each seed.
func mixedArray(rows int, columns int, seed int) [][]int {
	state := uint32(1000*columns + seed)
	return madeArray(rows, columns, func(int, int) int {
		state = state*1664525 + 1013904223
		return int(state >> 28)
	})
}

// wantList fails the test unless the result is as wanted; where ok is not wanted, the list is to be zero.
func wantList[T comparable](t *testing.T, call string, got []T, ok bool, want []T, fine bool) {
	t.Helper()
	if !fine {
		want = nil
	}
	if ok != fine || !slices.Equal(got, want) {
		t.Errorf("%s is %v, %v and not %v, %v", call, got, ok, want, fine)
	}
}

// wantOne does the same for a result that is one value.
func wantOne[T comparable](t *testing.T, call string, got T, ok bool, want T, fine bool) {
	t.Helper()
	if !fine {
		var zero T
		want = zero
	}
	if ok != fine || got != want {
		t.Errorf("%s is %v, %v and not %v, %v", call, got, ok, want, fine)
	}
}

// called returns the text of a call, for what a test reports.
func called(name string, args ...any) string {
	words := make([]string, len(args))
	for i, a := range args {
		words[i] = fmt.Sprintf("%+v", a)
	}
	return name + "(" + strings.Join(words, ", ") + ")"
}
