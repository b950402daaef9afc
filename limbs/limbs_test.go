package limbs_test

import (
	"math/big"
	"testing"

	"tripwire/limbs"
)

// The chapter's examples, to the digit.
func TestExamples(t *testing.T) {
	is(t, "Add", limbs.Add([]uint64{top}, []uint64{1}), 0, 1)
	is(t, "Mul", limbs.Mul([]uint64{top}, []uint64{top}), 1, top-1)
	q, r := limbs.DivMod([]uint64{0, 0, 1}, []uint64{3})
	is(t, "quotient", q, 6148914691236517205, 6148914691236517205)
	is(t, "rest", r, 1)
	is(t, "Sub", limbs.Sub([]uint64{1}, []uint64{2}))
	is(t, "Shl", limbs.Shl([]uint64{1}, 64), 0, 1)
	is(t, "Shr", limbs.Shr(limbs.Shl([]uint64{1}, 64), 1), 1<<63)
	is(t, "Gcd", limbs.Gcd([]uint64{12}, []uint64{18}), 6)
	if n := limbs.Bits([]uint64{0, 1}); n != 65 {
		t.Error("Bits", n)
	}
}

// P1.1: Trim.
func TestTrim(t *testing.T) {
	is(t, "none", limbs.Trim(nil))
	is(t, "noughts alone", limbs.Trim([]uint64{0, 0}))
	is(t, "noughts on top", limbs.Trim([]uint64{0, 7, 0, 0}), 0, 7)
	is(t, "no nought", limbs.Trim([]uint64{top, 7}), top, 7)
	pairs(func(a, _ []uint64) {
		same(t, "Trim", limbs.Trim(a), fromBig(toBig(a)))
	})
}

// P1.1: Cmp.
func TestCmp(t *testing.T) {
	for _, c := range []struct {
		a, b []uint64
		want int
	}{
		{nil, []uint64{0, 0}, 0},
		{nil, []uint64{0, 1}, -1},
		{[]uint64{5, 0}, []uint64{5}, 0},
		{[]uint64{4, 0, 0}, []uint64{5}, -1},
		{[]uint64{0, 1}, []uint64{top}, 1},
		{[]uint64{top, 1}, []uint64{0, 2}, -1},
		{[]uint64{1, 9}, []uint64{0, 9}, 1},
		{[]uint64{1 << 63}, []uint64{1}, 1},
	} {
		if got := limbs.Cmp(c.a, c.b); got != c.want {
			t.Errorf("Cmp %d %d: %d", c.a, c.b, got)
		}
	}
	pairs(func(a, b []uint64) {
		if got, want := limbs.Cmp(a, b), toBig(a).Cmp(toBig(b)); got != want {
			t.Errorf("Cmp %d %d: %d", a, b, got)
		}
	})
}

// P1.1: Add.
func TestAdd(t *testing.T) {
	is(t, "carries through all", limbs.Add([]uint64{top, top, top}, []uint64{1}), 0, 0, 0, 1)
	is(t, "carries from the shorter", limbs.Add([]uint64{1}, []uint64{top, top, 5}), 0, 0, 6)
	is(t, "two lists that are empty", limbs.Add(nil, nil))
	is(t, "noughts on top", limbs.Add([]uint64{3, 0, 0}, []uint64{4, 0}), 7)
	pairs(func(a, b []uint64) {
		same(t, "Add", limbs.Add(a, b), fromBig(new(big.Int).Add(toBig(a), toBig(b))))
	})
}

// P1.1: Sub, 0 where it would be below 0.
func TestSub(t *testing.T) {
	is(t, "borrows through all", limbs.Sub([]uint64{0, 0, 0, 1}, []uint64{1}), top, top, top)
	is(t, "the same", limbs.Sub([]uint64{7, 8}, []uint64{7, 8, 0}))
	is(t, "below 0 by length", limbs.Sub([]uint64{top, 0}, []uint64{0, 1}))
	is(t, "below 0 by the least digit", limbs.Sub([]uint64{1, 9}, []uint64{2, 9}))
	is(t, "longer with noughts", limbs.Sub([]uint64{9}, []uint64{2, 0, 0}), 7)
	is(t, "nothing taken away", limbs.Sub([]uint64{4, 0}, nil), 4)
	pairs(func(a, b []uint64) {
		want := new(big.Int).Sub(toBig(a), toBig(b))
		if want.Sign() < 0 {
			want.SetInt64(0)
		}
		same(t, "Sub", limbs.Sub(a, b), fromBig(want))
	})
}

// P1.1: Mul.
func TestMul(t *testing.T) {
	is(t, "by none", limbs.Mul([]uint64{5, 5}, nil))
	is(t, "by 0", limbs.Mul([]uint64{0, 0}, []uint64{5, 5}))
	is(t, "by 1 with noughts", limbs.Mul([]uint64{1, 0}, []uint64{5, 6}), 5, 6)
	is(t, "longest", limbs.Mul([]uint64{top, top}, []uint64{top, top}), 1, 0, top-1, top)
	pairs(func(a, b []uint64) {
		same(t, "Mul", limbs.Mul(a, b), fromBig(new(big.Int).Mul(toBig(a), toBig(b))))
	})
}

// P1.4: what follows for sums and products.
func TestLaws(t *testing.T) {
	d := dice(4)
	pairs(func(a, b []uint64) {
		c := d.number(6)
		same(t, "order of a sum", limbs.Add(a, b), limbs.Add(b, a))
		same(t, "order of a product", limbs.Mul(a, b), limbs.Mul(b, a))
		same(t, "grouping of a sum", limbs.Add(limbs.Add(a, b), c), limbs.Add(a, limbs.Add(b, c)))
		same(t, "grouping of a product", limbs.Mul(limbs.Mul(a, b), c), limbs.Mul(a, limbs.Mul(b, c)))
		same(t, "a product through a sum", limbs.Mul(a, limbs.Add(b, c)), limbs.Add(limbs.Mul(a, b), limbs.Mul(a, c)))
		same(t, "Sub undoes Add", limbs.Sub(limbs.Add(a, b), b), limbs.Trim(a))
		if limbs.Bits(b) > 0 {
			q, r := limbs.DivMod(limbs.Mul(a, b), b)
			same(t, "DivMod undoes Mul", q, limbs.Trim(a))
			is(t, "no rest", r)
		}
	})
}
