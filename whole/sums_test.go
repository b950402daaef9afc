package whole_test

import (
	"math/big"
	"testing"

	"tripwire/api"
	"tripwire/whole"
)

// P2.1: Add and Sub.
func TestAddAndSub(t *testing.T) {
	same(t, "a carry above 0", whole.Add(above(top), above(1)), above(0, 1))
	same(t, "a carry below 0", whole.Add(below(top), below(1)), below(0, 1))
	same(t, "the greater size below 0", whole.Add(above(1), below(0, 1)), below(top))
	same(t, "the greater size above 0", whole.Add(below(1), above(0, 1)), above(top))
	same(t, "nothing left", whole.Add(below(5, 6, 0), above(5, 6)), above())
	same(t, "nothing left of what is below 0", whole.Sub(below(5, 6), below(5, 6, 0)), above())
	same(t, "from 0 that is Neg", whole.Sub(below(0), above(5)), below(5))
	same(t, "0 that is Neg from 0 that is Neg", whole.Sub(below(), below(0)), above())
	same(t, "0 that is Neg and 0 that is Neg", whole.Add(below(), below(0)), above())
	pairs(func(a, b api.Int) {
		same(t, "Add", whole.Add(a, b), fromBig(new(big.Int).Add(toBig(a), toBig(b))))
		same(t, "Sub", whole.Sub(a, b), fromBig(new(big.Int).Sub(toBig(a), toBig(b))))
	})
}

// P2.1: Mul.
func TestMul(t *testing.T) {
	same(t, "two below 0", whole.Mul(below(3), below(4, 0)), above(12))
	same(t, "one below 0", whole.Mul(below(top), above(top)), below(1, top-1))
	same(t, "0 and what is below 0", whole.Mul(above(0), below(4)), above())
	same(t, "what is below 0 and 0", whole.Mul(below(4), above()), above())
	same(t, "0 that is Neg", whole.Mul(below(0, 0), above(4)), above())
	pairs(func(a, b api.Int) {
		same(t, "Mul", whole.Mul(a, b), fromBig(new(big.Int).Mul(toBig(a), toBig(b))))
	})
}

// divides asks for the quotient and the rest that the library tells: its Euclidean ones, whose rest is never below 0.
func divides(t *testing.T, a, b api.Int) {
	t.Helper()
	q, r := whole.DivMod(a, b)
	if toBig(b).Sign() == 0 {
		is(t, "quotient by 0", q, 0)
		is(t, "rest by 0", r, 0)
		return
	}
	wantQ, wantR := new(big.Int).DivMod(toBig(a), toBig(b), new(big.Int))
	same(t, "quotient", q, fromBig(wantQ))
	same(t, "rest", r, fromBig(wantR))
	if t.Failed() {
		t.Fatalf("%v by %v", a, b)
	}
}

// P2.2: DivMod.
func TestDivMod(t *testing.T) {
	pairs(func(a, b api.Int) {
		divides(t, a, b)
	})
}

// P2.2: divisors of either sign, and what they leave of what is below 0: with a rest, without, and nothing but a rest.
func TestDivModSigns(t *testing.T) {
	for _, c := range [][4]int64{
		{7, 2, 3, 1}, {-7, 2, -4, 1}, {7, -2, -3, 1}, {-7, -2, 4, 1},
		{6, 2, 3, 0}, {-6, 2, -3, 0}, {6, -2, -3, 0}, {-6, -2, 3, 0},
		{1, 5, 0, 1}, {-1, 5, -1, 4}, {1, -5, 0, 1}, {-1, -5, 1, 4},
		{0, 5, 0, 0}, {0, -5, 0, 0}, {5, 1, 5, 0}, {-5, -1, 5, 0},
	} {
		q, r := whole.DivMod(fromInt(c[0]), fromInt(c[1]))
		is(t, "quotient", q, c[2])
		is(t, "rest", r, c[3])
	}
	q, r := whole.DivMod(below(1, 0), above(0, 1, 0))
	same(t, "quotient of a shorter one", q, below(1))
	same(t, "rest of a shorter one", r, above(top))
	q, r = whole.DivMod(below(top, top, 0), below(top))
	same(t, "quotient without a rest", q, above(1, 1))
	same(t, "no rest", r, above())
	q, r = whole.DivMod(below(0, 0), below(5))
	same(t, "quotient of 0 that is Neg", q, above())
	same(t, "rest of 0 that is Neg", r, above())
}

// P2.2: a divisor of 0, in any form.
func TestDivModByZero(t *testing.T) {
	for _, b := range []api.Int{above(), below(), above(0), below(0, 0, 0)} {
		for _, a := range edges() {
			divides(t, a, b)
		}
	}
}

// P2.2: Gcd is never below 0.
func TestGcd(t *testing.T) {
	is(t, "above 0", whole.Gcd(above(12), above(18)), 6)
	is(t, "one below 0", whole.Gcd(below(12), above(18, 0)), 6)
	is(t, "the other one below 0", whole.Gcd(above(12, 0), below(18)), 6)
	is(t, "both below 0", whole.Gcd(below(12), below(18)), 6)
	is(t, "the one", whole.Gcd(below(7, 0), below(0)), 7)
	is(t, "the other one", whole.Gcd(above(), below(7)), 7)
	is(t, "of none", whole.Gcd(below(), below(0, 0)), 0)
	pairs(func(a, b api.Int) {
		want := new(big.Int).GCD(nil, nil, new(big.Int).Abs(toBig(a)), new(big.Int).Abs(toBig(b)))
		same(t, "Gcd", whole.Gcd(a, b), fromBig(want))
	})
}
