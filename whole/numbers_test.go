package whole_test

import (
	"math/big"
	"slices"
	"testing"

	"tripwire/api"
)

const top = 1<<64 - 1

// above and below make Ints of digits, the least first, in no matter what form.
func above(digits ...uint64) api.Int {
	return api.Int{Abs: digits}
}

func below(digits ...uint64) api.Int {
	return api.Int{Neg: true, Abs: digits}
}

// toBig says what an Int counts, by the library's whole numbers, which the tests take for right.
func toBig(a api.Int) *big.Int {
	out := new(big.Int)
	for _, d := range slices.Backward(a.Abs) {
		out.Lsh(out, 64)
		out.Or(out, new(big.Int).SetUint64(d))
	}
	if a.Neg {
		out.Neg(out)
	}
	return out
}

// fromBig tells the one form of a number.
func fromBig(x *big.Int) api.Int {
	out := api.Int{Neg: x.Sign() < 0}
	low := new(big.Int).SetUint64(top)
	for x = new(big.Int).Abs(x); x.Sign() > 0; x.Rsh(x, 64) {
		out.Abs = append(out.Abs, new(big.Int).And(x, low).Uint64())
	}
	return out
}

// fromInt tells the one form of a number by the library, not by the calls that are tested.
func fromInt(n int64) api.Int {
	return fromBig(big.NewInt(n))
}

// equal asks for this sign and these digits: what isn't in its one form is never equal to what is.
func equal(a, b api.Int) bool {
	return a.Neg == b.Neg && slices.Equal(a.Abs, b.Abs)
}

// same asks for want, which is in its one form.
func same(t *testing.T, what string, got, want api.Int) {
	t.Helper()
	if !equal(got, want) {
		t.Errorf("%s: got %v, want %v", what, got, want)
	}
}

// is asks for the one form of a number that is short.
func is(t *testing.T, what string, got api.Int, want int64) {
	t.Helper()
	same(t, what, got, fromInt(want))
}

// dice is a row of numbers that is the same in each run.
type dice uint64

func (d *dice) next() uint64 {
	*d += 0x9e3779b97f4a7c15
	x := uint64(*d)
	x = (x ^ x>>30) * 0xbf58476d1ce4e5b9
	x = (x ^ x>>27) * 0x94d049bb133111eb
	return x ^ x>>31
}

func (d *dice) below(n int) int {
	return int(d.next() % uint64(n))
}

// digit is often one at which carries and borrows go wrong.
func (d *dice) digit() uint64 {
	hard := []uint64{0, 0, 1, 2, 1<<63 - 1, 1 << 63, 1<<63 + 1, top - 1, top, top}
	if i := d.below(2 * len(hard)); i < len(hard) {
		return hard[i]
	}
	return d.next() >> d.below(64)
}

// number has most digits at most, some of them perhaps 0 on top; 0 is Neg as often as not.
func (d *dice) number(most int) api.Int {
	out := api.Int{Neg: d.below(2) == 1, Abs: make([]uint64, d.below(most+1))}
	for i := range out.Abs {
		out.Abs[i] = d.digit()
	}
	return out
}

// edges are the numbers near 0 and near the ends of digits, on both sides of 0 and in several forms; 0 in all of its forms.
func edges() []api.Int {
	var out []api.Int
	for _, digits := range [][]uint64{
		nil, {}, {0}, {0, 0, 0},
		{1}, {1, 0}, {2}, {3, 0, 0}, {7}, {1<<63 - 1}, {1 << 63}, {1 << 63, 0}, {1<<63 + 1}, {top}, {top, 0},
		{0, 1}, {1, 1}, {0, 1, 0}, {1 << 63, 1}, {top, top}, {0, 0, 1}, {0, 1 << 63}, {top, 0, top},
	} {
		out = append(out, above(digits...), below(digits...))
	}
	return out
}

// pairs hands f each pair of edges, each pair of numbers near 0, and many others.
func pairs(f func(a, b api.Int)) {
	for _, a := range edges() {
		for _, b := range edges() {
			f(a, b)
		}
	}
	for a := int64(-13); a <= 13; a++ {
		for b := int64(-13); b <= 13; b++ {
			f(fromInt(a), fromInt(b))
		}
	}
	d := dice(1)
	for range 4000 {
		f(d.number(5), d.number(5))
	}
	for range 20 {
		f(d.number(60), d.number(60))
	}
}
