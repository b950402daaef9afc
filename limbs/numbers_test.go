package limbs_test

import (
	"math/big"
	"slices"
	"testing"
)

const top = 1<<64 - 1

// toBig says what a list counts, by the library's whole numbers, which the tests take for right.
func toBig(a []uint64) *big.Int {
	out := new(big.Int)
	for _, d := range slices.Backward(a) {
		out.Lsh(out, 64)
		out.Or(out, new(big.Int).SetUint64(d))
	}
	return out
}

// fromBig tells the one form of a number that isn't below 0.
func fromBig(x *big.Int) []uint64 {
	var out []uint64
	low := new(big.Int).SetUint64(top)
	for x = new(big.Int).Set(x); x.Sign() > 0; x.Rsh(x, 64) {
		out = append(out, new(big.Int).And(x, low).Uint64())
	}
	return out
}

// same asks for these digits and no others: an answer with a 0 on top isn't in its one form.
func same(t *testing.T, what string, got, want []uint64) {
	t.Helper()
	if !slices.Equal(got, want) {
		t.Errorf("%s: got %d, want %d", what, got, want)
	}
}

func is(t *testing.T, what string, got []uint64, want ...uint64) {
	t.Helper()
	same(t, what, got, want)
}

// dice is a row of numbers that is the same in each run.
type dice uint64

func (d *dice) next() uint64 {
	*d += 0x9e3779b97f4a7c15
	x := uint64(*d)
	x = (x ^ x>>30) * 0xbf58476d1ce4e5b9
	x = (x ^ x>>27) * 0x94d049bb133111eb
	return x ^ x>>31
}

func (d *dice) below(n int) int {
	return int(d.next() % uint64(n))
}

// digit is often one at which carries, borrows and guesses go wrong.
func (d *dice) digit() uint64 {
	hard := []uint64{0, 0, 1, 2, 1<<63 - 1, 1 << 63, 1<<63 + 1, top - 1, top, top}
	if i := d.below(2 * len(hard)); i < len(hard) {
		return hard[i]
	}
	return d.next() >> d.below(64)
}

// number has most digits at most, some of them perhaps 0 on top.
func (d *dice) number(most int) []uint64 {
	out := make([]uint64, d.below(most+1))
	for i := range out {
		out[i] = d.digit()
	}
	return out
}

// edges are the numbers that are short or have long rows of the same digit, in several forms.
func edges() [][]uint64 {
	return [][]uint64{
		nil, {}, {0}, {0, 0, 0},
		{1}, {1, 0}, {2}, {3, 0, 0}, {10}, {1 << 63}, {top - 1}, {top}, {top, 0},
		{0, 1}, {1, 1}, {0, 1, 0, 0}, {top, 1}, {0, top}, {top, top}, {0, 1 << 63}, {top, 1<<63 - 1},
		{0, 0, 1}, {1, 0, 1}, {top, top, top}, {0, 0, 1 << 63}, {top, 0, top},
		{0, 0, 0, 0, 0, 1}, {top, top, top, top, top, top}, {1, 0, 0, 0, 0, 0, 0},
	}
}

// pairs hands f each pair of edges, and many others.
func pairs(f func(a, b []uint64)) {
	for _, a := range edges() {
		for _, b := range edges() {
			f(a, b)
		}
	}
	d := dice(1)
	for range 4000 {
		f(d.number(8), d.number(8))
	}
	for range 20 {
		f(d.number(90), d.number(90))
	}
}
