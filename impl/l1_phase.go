package impl

import (
	"strconv"
	"strings"
)

const MaxLength = 32
const MaxPart = 1000000

// maxMove bounds the turns and the shifts, in both directions.
const maxMove = 1000

// maxRanked is the greatest number of phases of a sequence with a rank.
const maxRanked = 15

// phaseLetters has the letter of each phase at its index.
const phaseLetters = "+i-j"

// noPhases is the text of the empty sequence, so that no text is empty.
const noPhases = "0"

type Gauss struct {
	Re int
	Im int
}

// phases is a sequence as a value: a move changes its own copy and cannot reach the memory of a caller.
type phases struct {
	at     [MaxLength]int
	length int
}

// phasesOf returns the sequence of a list that is one.
func phasesOf(s []int) (phases, bool) {
	if !IsSequence(s) {
		return phases{}, false
	}
	p := phases{length: len(s)}
	copy(p.at[:], s)
	return p, true
}

func (p phases) list() []int {
	s := make([]int, p.length)
	copy(s, p.at[:p.length])
	return s
}

func (p phases) turned(k int) phases {
	for i := range p.length {
		p.at[i] = modulo(p.at[i]+k, 4)
	}
	return p
}

func (p phases) shifted(k int) phases {
	q := phases{length: p.length}
	for i := range p.length {
		q.at[i] = p.at[modulo(i+k, p.length)]
	}
	return q
}

func (p phases) climbed(k int) phases {
	for i := range p.length {
		p.at[i] = modulo(p.at[i]+k*i, 4)
	}
	return p
}

func (p phases) conjugate() phases {
	for i := range p.length {
		p.at[i] = modulo(-p.at[i], 4)
	}
	return p
}

func (p phases) backwards() phases {
	q := phases{length: p.length}
	for i := range p.length {
		q.at[i] = p.at[p.length-1-i]
	}
	return q
}

func (p phases) joined(q phases) (phases, bool) {
	if p.length+q.length > MaxLength {
		return phases{}, false
	}
	copy(p.at[p.length:], q.at[:q.length])
	p.length += q.length
	return p, true
}

func (p phases) interleaved(q phases) (phases, bool) {
	if p.length != q.length || p.length+q.length > MaxLength {
		return phases{}, false
	}
	r := phases{length: p.length + q.length}
	for i := range p.length {
		r.at[2*i] = p.at[i]
		r.at[2*i+1] = q.at[i]
	}
	return r, true
}

func (p phases) times(q phases) (phases, bool) {
	if p.length != q.length {
		return phases{}, false
	}
	for i := range p.length {
		p.at[i] = modulo(p.at[i]+q.at[i], 4)
	}
	return p, true
}

// moved returns what a move by k, which is to be in least..most, makes of a sequence.
func moved(s []int, k int, least int, most int, move func(phases, int) phases) ([]int, bool) {
	p, ok := phasesOf(s)
	if !ok || k < least || k > most {
		return nil, false
	}
	return move(p, k).list(), true
}

// mirrored returns what a move without a number makes of a sequence.
func mirrored(s []int, mirror func(phases) phases) ([]int, bool) {
	p, ok := phasesOf(s)
	if !ok {
		return nil, false
	}
	return mirror(p).list(), true
}

// united returns the one sequence that unite makes of two, if it makes one.
func united(a []int, b []int, unite func(phases, phases) (phases, bool)) ([]int, bool) {
	p, first := phasesOf(a)
	q, second := phasesOf(b)
	if !first || !second {
		return nil, false
	}
	r, ok := unite(p, q)
	if !ok {
		return nil, false
	}
	return r.list(), true
}

// modulo returns n modulo m in 0..m - 1, also for an n less than 0.
func modulo(n int, m int) int {
	r := n % m
	if r < 0 {
		r += m
	}
	return r
}

// valueOf returns i^k for a phase k.
func valueOf(k int) complex64 {
	values := [4]complex64{1, 1i, -1, -1i}
	return values[k]
}

// gaussOf is exact for parts up to 2^24, as far as complex64 counts without gaps.
func gaussOf(v complex64) Gauss {
	return Gauss{Re: int(real(v)), Im: int(imag(v))}
}

// gaussIfValid returns z, or fails if z is no Gaussian number.
func gaussIfValid(z Gauss) (Gauss, bool) {
	if !IsGauss(z) {
		return Gauss{}, false
	}
	return z, true
}

func isPart(n int) bool {
	return -MaxPart <= n && n <= MaxPart
}

// IsGauss reports whether z is a Gaussian number.
func IsGauss(z Gauss) bool {
	return isPart(z.Re) && isPart(z.Im)
}

// PlusGauss returns the sum.
func PlusGauss(a Gauss, b Gauss) (Gauss, bool) {
	if !IsGauss(a) || !IsGauss(b) {
		return Gauss{}, false
	}
	return gaussIfValid(Gauss{Re: a.Re + b.Re, Im: a.Im + b.Im})
}

// TimesGauss returns the product. It counts with int, as products of parts may be too great to be exact in complex64.
func TimesGauss(a Gauss, b Gauss) (Gauss, bool) {
	if !IsGauss(a) || !IsGauss(b) {
		return Gauss{}, false
	}
	return gaussIfValid(Gauss{Re: a.Re*b.Re - a.Im*b.Im, Im: a.Re*b.Im + a.Im*b.Re})
}

// ConjugateGauss returns the conjugate.
func ConjugateGauss(z Gauss) (Gauss, bool) {
	if !IsGauss(z) {
		return Gauss{}, false
	}
	return Gauss{Re: z.Re, Im: -z.Im}, true
}

// NormOf returns the norm, which is a single number and so not bounded by MaxPart.
func NormOf(z Gauss) (int, bool) {
	if !IsGauss(z) {
		return 0, false
	}
	return z.Re*z.Re + z.Im*z.Im, true
}

// PhaseValue returns the value of a phase k, in 0..3.
func PhaseValue(k int) (Gauss, bool) {
	if k < 0 || k > 3 {
		return Gauss{}, false
	}
	return gaussOf(valueOf(k)), true
}

// IsSequence reports whether a list, whose numbers may be any, is a sequence.
func IsSequence(s []int) bool {
	if len(s) > MaxLength {
		return false
	}
	for _, k := range s {
		if k < 0 || k > 3 {
			return false
		}
	}
	return true
}

// TurnBy returns the sequence with k more in each phase, k in -1000..1000.
func TurnBy(s []int, k int) ([]int, bool) {
	return moved(s, k, -maxMove, maxMove, phases.turned)
}

// ConjugateOf returns the sequence of the conjugates of its values: each phase k becomes -k.
func ConjugateOf(s []int) ([]int, bool) {
	return mirrored(s, phases.conjugate)
}

// BackwardsOf returns the sequence backwards.
func BackwardsOf(s []int) ([]int, bool) {
	return mirrored(s, phases.backwards)
}

// ShiftBy returns the sequence that begins at the index k modulo its length and goes round, k in -1000..1000; the empty one for itself.
func ShiftBy(s []int, k int) ([]int, bool) {
	return moved(s, k, -maxMove, maxMove, phases.shifted)
}

// ClimbBy returns the sequence with k times its index more in each phase, k in 0..3.
func ClimbBy(s []int, k int) ([]int, bool) {
	return moved(s, k, 0, 3, phases.climbed)
}

// AlternateOf returns ClimbBy 2: each second value gets the other sign.
func AlternateOf(s []int) ([]int, bool) {
	return ClimbBy(s, 2)
}

// SumOf returns the sum of all values.
func SumOf(s []int) (Gauss, bool) {
	if !IsSequence(s) {
		return Gauss{}, false
	}
	var sum complex64
	for _, k := range s {
		sum += valueOf(k)
	}
	return gaussOf(sum), true
}

// JoinOf returns both, one behind the other.
func JoinOf(a []int, b []int) ([]int, bool) {
	return united(a, b, phases.joined)
}

// InterleaveOf returns the values of two sequences of the same length in turn, the first one first.
func InterleaveOf(a []int, b []int) ([]int, bool) {
	return united(a, b, phases.interleaved)
}

// ProductOf returns the sequence whose phases are the sums of those of a and b, for two sequences of the same length.
func ProductOf(a []int, b []int) ([]int, bool) {
	return united(a, b, phases.times)
}

// SequenceText returns a +, i, - or j for the phases 0, 1, 2 and 3, or 0 for none.
func SequenceText(s []int) (string, bool) {
	if !IsSequence(s) {
		return "", false
	}
	if len(s) == 0 {
		return noPhases, true
	}
	letters := make([]byte, len(s))
	for i, k := range s {
		letters[i] = phaseLetters[k]
	}
	return string(letters), true
}

// ParseSequence returns the sequence with a SequenceText. It fails if there is none.
func ParseSequence(t string) ([]int, bool) {
	if t == noPhases {
		return nil, true
	}
	if t == "" || len(t) > MaxLength {
		return nil, false
	}
	s := make([]int, len(t))
	for i := range len(t) {
		k := strings.IndexByte(phaseLetters, t[i])
		if k < 0 {
			return nil, false
		}
		s[i] = k
	}
	return s, true
}

// SequenceWith returns the sequence of n phases, n in 0..15, whose phases, as digits in the base 4, the first one greatest, make the number rank. It fails if there is none.
func SequenceWith(n int, rank int) ([]int, bool) {
	if n < 0 || n > maxRanked || rank < 0 {
		return nil, false
	}
	s := make([]int, n)
	for i := n - 1; i >= 0; i-- {
		s[i] = rank % 4
		rank /= 4
	}
	if rank > 0 { // more digits than n
		return nil, false
	}
	return s, true
}

// RankOf returns that number, for at most 15 phases.
func RankOf(s []int) (int, bool) {
	if !IsSequence(s) || len(s) > maxRanked {
		return 0, false
	}
	rank := 0
	for _, k := range s {
		rank = 4*rank + k
	}
	return rank, true
}

// GaussText returns Re, a sign, Im without its sign, and i: 3-2i.
func GaussText(z Gauss) (string, bool) {
	if !IsGauss(z) {
		return "", false
	}
	sign, size := "+", z.Im
	if z.Im < 0 {
		sign, size = "-", -z.Im
	}
	return strconv.Itoa(z.Re) + sign + strconv.Itoa(size) + "i", true
}
