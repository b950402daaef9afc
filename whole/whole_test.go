package whole_test

import (
	"math"
	"math/big"
	"testing"

	"tripwire/api"
	"tripwire/whole"
)

// The chapter's examples.
func TestExamples(t *testing.T) {
	of := whole.Of
	is(t, "Add", whole.Add(of(5), of(-7)), -2)
	is(t, "Sub", whole.Sub(of(-5), of(-5)), 0)
	is(t, "Mul", whole.Mul(of(-3), of(4)), -12)
	for _, c := range [][4]int64{{-7, 2, -4, 1}, {-7, -2, 4, 1}, {7, -2, -3, 1}} {
		q, r := whole.DivMod(of(c[0]), of(c[1]))
		is(t, "quotient", q, c[2])
		is(t, "rest", r, c[3])
	}
	if n, ok := whole.Small(above(1 << 63)); ok || n != 0 {
		t.Error("Small of 2^63", n, ok)
	}
	if n, ok := whole.Small(below(1 << 63)); !ok || n != math.MinInt64 {
		t.Error("Small of -2^63", n, ok)
	}
	is(t, "Norm", whole.Norm(below(0, 0)), 0)
}

// P2.1: Of.
func TestOf(t *testing.T) {
	same(t, "0", whole.Of(0), above())
	same(t, "1", whole.Of(1), above(1))
	same(t, "-1", whole.Of(-1), below(1))
	same(t, "2^63 - 1", whole.Of(math.MaxInt64), above(1<<63-1))
	same(t, "-2^63 + 1", whole.Of(math.MinInt64+1), below(1<<63-1))
	same(t, "-2^63", whole.Of(math.MinInt64), below(1<<63))
	for n := int64(-300); n <= 300; n++ {
		same(t, "Of", whole.Of(n), fromInt(n))
	}
}

// P2.1: Norm.
func TestNorm(t *testing.T) {
	for _, digits := range [][]uint64{nil, {}, {0}, {0, 0, 0}} {
		same(t, "0", whole.Norm(above(digits...)), above())
		same(t, "0 that is Neg", whole.Norm(below(digits...)), above())
	}
	same(t, "noughts on top", whole.Norm(below(0, 7, 0, 0)), below(0, 7))
	same(t, "the one form", whole.Norm(above(top, 7)), above(top, 7))
	pairs(func(a, _ api.Int) {
		same(t, "Norm", whole.Norm(a), fromBig(toBig(a)))
	})
}

// P2.1: Neg and Abs.
func TestNegAndAbs(t *testing.T) {
	for _, zero := range []api.Int{above(), below(), above(0), below(0, 0)} {
		same(t, "Neg of 0", whole.Neg(zero), above())
		same(t, "Abs of 0", whole.Abs(zero), above())
	}
	same(t, "Neg from above", whole.Neg(above(5, 6, 0)), below(5, 6))
	same(t, "Neg from below", whole.Neg(below(5, 6, 0)), above(5, 6))
	same(t, "Abs from above", whole.Abs(above(5, 6, 0)), above(5, 6))
	same(t, "Abs from below", whole.Abs(below(5, 6, 0)), above(5, 6))
	pairs(func(a, _ api.Int) {
		same(t, "Neg", whole.Neg(a), fromBig(new(big.Int).Neg(toBig(a))))
		same(t, "Abs", whole.Abs(a), fromBig(new(big.Int).Abs(toBig(a))))
	})
}

// P2.1: Sign.
func TestSign(t *testing.T) {
	for _, c := range []struct {
		a    api.Int
		want int
	}{
		{above(), 0}, {below(), 0}, {above(0), 0}, {below(0, 0), 0},
		{above(1), 1}, {below(1), -1}, {above(0, 1, 0), 1}, {below(0, 1, 0), -1},
		{above(1 << 63), 1}, {below(1 << 63), -1},
	} {
		if got := whole.Sign(c.a); got != c.want {
			t.Errorf("Sign %v: %d", c.a, got)
		}
	}
	pairs(func(a, _ api.Int) {
		if got := whole.Sign(a); got != toBig(a).Sign() {
			t.Errorf("Sign %v: %d", a, got)
		}
	})
}

// P2.1: Cmp.
func TestCmp(t *testing.T) {
	for _, c := range []struct {
		a, b api.Int
		want int
	}{
		{below(0, 0), above(), 0},
		{below(), above(0), 0},
		{above(5, 0), above(5), 0},
		{below(5), below(5, 0, 0), 0},
		{below(1), above(), -1},
		{below(), above(1), -1},
		{above(), below(1), 1},
		{below(0, 1), above(1), -1},
		{above(1), below(0, 1), 1},
		{below(0, 1), below(top), -1},
		{below(4, 0, 0), below(5), 1},
		{above(0, 1), above(top, 0), 1},
	} {
		if got := whole.Cmp(c.a, c.b); got != c.want {
			t.Errorf("Cmp %v %v: %d", c.a, c.b, got)
		}
	}
	pairs(func(a, b api.Int) {
		if got, want := whole.Cmp(a, b), toBig(a).Cmp(toBig(b)); got != want {
			t.Errorf("Cmp %v %v: %d", a, b, got)
		}
	})
}

// P2.2: Small, and that Of undoes it.
func TestSmall(t *testing.T) {
	for _, c := range []struct {
		a    api.Int
		want int64
		ok   bool
	}{
		{above(), 0, true}, {below(), 0, true}, {below(0, 0), 0, true},
		{above(7, 0, 0), 7, true}, {below(7, 0, 0), -7, true},
		{above(1<<63 - 1), math.MaxInt64, true}, {below(1<<63 - 1), -math.MaxInt64, true},
		{above(1 << 63), 0, false}, {above(1<<63, 0), 0, false},
		{below(1 << 63), math.MinInt64, true}, {below(1<<63, 0), math.MinInt64, true},
		{below(1<<63 + 1), 0, false}, {above(top), 0, false}, {below(top), 0, false},
		{above(0, 1), 0, false}, {below(0, 1), 0, false}, {above(5, 1), 0, false}, {below(5, 1), 0, false},
		{below(1<<63, 1), 0, false}, {above(5, 0, 1), 0, false},
	} {
		if got, ok := whole.Small(c.a); got != c.want || ok != c.ok {
			t.Errorf("Small %v: %d %t", c.a, got, ok)
		}
	}
	pairs(func(a, _ api.Int) {
		got, ok := whole.Small(a)
		switch {
		case ok != toBig(a).IsInt64():
			t.Errorf("Small %v: %t", a, ok)
		case ok:
			same(t, "Of Small", whole.Of(got), fromBig(toBig(a)))
		case got != 0:
			t.Errorf("Small %v: %d beside a false", a, got)
		}
	})
}
