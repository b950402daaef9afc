package whole_test

import (
	"testing"

	"tripwire/api"
	"tripwire/whole"
)

// P2.3: whole numbers are a ring.
func TestRing(t *testing.T) {
	d := dice(2)
	zero, one := whole.Of(0), whole.Of(1)
	pairs(func(a, b api.Int) {
		c := d.number(4)
		same(t, "order of a sum", whole.Add(a, b), whole.Add(b, a))
		same(t, "order of a product", whole.Mul(a, b), whole.Mul(b, a))
		same(t, "grouping of a sum", whole.Add(whole.Add(a, b), c), whole.Add(a, whole.Add(b, c)))
		same(t, "grouping of a product", whole.Mul(whole.Mul(a, b), c), whole.Mul(a, whole.Mul(b, c)))
		same(t, "a product through a sum", whole.Mul(a, whole.Add(b, c)), whole.Add(whole.Mul(a, b), whole.Mul(a, c)))
		same(t, "0 added", whole.Add(a, zero), whole.Norm(a))
		same(t, "times 1", whole.Mul(a, one), whole.Norm(a))
		same(t, "a + (-a)", whole.Add(a, whole.Neg(a)), zero)
		same(t, "(-a) b", whole.Mul(whole.Neg(a), b), whole.Neg(whole.Mul(a, b)))
		same(t, "a - b", whole.Sub(a, b), whole.Add(a, whole.Neg(b)))
		same(t, "-(-a)", whole.Neg(whole.Neg(a)), whole.Norm(a))
	})
}

// P2.3: whole numbers are in order, which sums, and products with what is above 0, keep.
func TestOrder(t *testing.T) {
	d := dice(3)
	pairs(func(a, b api.Int) {
		c := d.number(4)
		order := whole.Cmp(a, b)
		if order != whole.Sign(whole.Sub(a, b)) {
			t.Errorf("%v and %v: Cmp is %d, not the sign of what is between them", a, b, order)
		}
		if order != -whole.Cmp(b, a) {
			t.Errorf("%v and %v: the same order both ways", a, b)
		}
		if got := whole.Cmp(whole.Add(a, c), whole.Add(b, c)); got != order {
			t.Errorf("%v and %v, with %v added: %d", a, b, c, got)
		}
		if got := whole.Cmp(whole.Mul(a, c), whole.Mul(b, c)); got != order*whole.Sign(c) {
			t.Errorf("%v and %v, times %v: %d", a, b, c, got)
		}
	})
}

// P2.2, P2.3: what DivMod tells goes together, and it undoes Mul.
func TestDivModBack(t *testing.T) {
	pairs(func(a, b api.Int) {
		if whole.Sign(b) == 0 {
			return
		}
		q, r := whole.DivMod(a, b)
		same(t, "q b + r", whole.Add(whole.Mul(q, b), r), whole.Norm(a))
		if whole.Sign(r) < 0 || whole.Cmp(r, whole.Abs(b)) >= 0 {
			t.Errorf("%v by %v: rest %v", a, b, r)
		}
		q, r = whole.DivMod(whole.Mul(a, b), b)
		same(t, "a b by b", q, whole.Norm(a))
		is(t, "no rest", r, 0)
	})
}
