package limbs_test

import (
	"math/big"
	"testing"

	"tripwire/limbs"
)

// divides asks for the quotient and the rest that the library tells, each in its one form.
func divides(t *testing.T, a, b []uint64) {
	t.Helper()
	q, r := limbs.DivMod(a, b)
	if toBig(b).Sign() == 0 {
		is(t, "quotient by 0", q)
		is(t, "rest by 0", r)
		return
	}
	wantQ, wantR := new(big.Int).QuoRem(toBig(a), toBig(b), new(big.Int))
	same(t, "quotient", q, fromBig(wantQ))
	same(t, "rest", r, fromBig(wantR))
	if t.Failed() {
		t.Fatalf("%d by %d", a, b)
	}
}

// P1.2: DivMod.
func TestDivMod(t *testing.T) {
	pairs(func(a, b []uint64) {
		divides(t, a, b)
	})
}

// P1.2: a divisor of 0, in any form.
func TestDivModByZero(t *testing.T) {
	for _, b := range [][]uint64{nil, {}, {0}, {0, 0, 0}} {
		for _, a := range edges() {
			divides(t, a, b)
		}
	}
}

// P1.2: digits of the quotient at which a guess from the top digits is too great by one or two, or would not fit in a digit.
func TestDivModGuesses(t *testing.T) {
	for _, c := range [][2][]uint64{
		{{0, 0, 1 << 63, 1<<63 - 1}, {1, 0, 1 << 63}},
		{{3, 0, 1 << 63}, {1, 0, 1 << 61}},
		{{0, top - 1, 1 << 63}, {top, 1 << 63}},
		{{0, 0, 0, 1}, {1, 1}},
		{{0, 0, 1 << 63}, {top, 1 << 63}},
		{{top, top - 1, 1<<63 - 1, 1 << 63}, {top, 1<<63 - 1, 1<<63 + 1}},
		{{0, top, top}, {top, top}},
		{{top, top, top, top}, {top, top, 0}},
		{{5, 0, 0, 1}, {6, 0, 1, 0}},
	} {
		divides(t, c[0], c[1])
	}
	d := dice(2)
	for range 20000 { // just below, at and above a product, where a quotient's digit is about to change
		b := limbs.Add(d.number(4), []uint64{1})
		a := limbs.Mul(b, d.number(4))
		divides(t, limbs.Sub(a, []uint64{1}), b)
		divides(t, a, b)
		divides(t, limbs.Add(a, limbs.Sub(b, []uint64{1})), b)
	}
}

// P1.2: Gcd.
func TestGcd(t *testing.T) {
	is(t, "of none", limbs.Gcd(nil, []uint64{0}))
	is(t, "the other one", limbs.Gcd(nil, []uint64{7, 8, 0}), 7, 8)
	is(t, "the one", limbs.Gcd([]uint64{0, 9}, []uint64{0}), 0, 9)
	is(t, "with noughts on top", limbs.Gcd([]uint64{12, 0, 0}, []uint64{18, 0}), 6)
	pairs(func(a, b []uint64) {
		greatest(t, a, b)
	})
}

func greatest(t *testing.T, a, b []uint64) {
	t.Helper()
	got := limbs.Gcd(a, b)
	same(t, "Gcd", got, fromBig(new(big.Int).GCD(nil, nil, toBig(a), toBig(b))))
	if t.Failed() {
		t.Fatalf("%d and %d: %d", a, b, got)
	}
}

// P1.2: numbers with something in common, of all kinds of lengths.
func TestGcdInCommon(t *testing.T) {
	d := dice(3)
	for i := range 6000 {
		most := 1 + i%12
		c := d.number(most)
		greatest(t, limbs.Mul(d.number(most), c), limbs.Mul(d.number(most), c))
	}
}

// P1.2: quotients of 1 all the way (the longest row of steps), and quotients of more than a digit.
func TestGcdRows(t *testing.T) {
	a, b := []uint64{1}, []uint64{1}
	for range 2000 {
		a, b = limbs.Add(a, b), a
		is(t, "neighbours", limbs.Gcd(a, b), 1)
		greatest(t, limbs.Mul(a, []uint64{top, 6}), limbs.Mul(b, []uint64{top, 6}))
	}
	long := []uint64{1}
	for n := range 40 {
		high := limbs.Shl([]uint64{top, 3}, 67*n)
		a, long = limbs.Add(limbs.Mul(long, high), a), limbs.Add(high, []uint64{uint64(n)})
		greatest(t, a, long)
	}
}
