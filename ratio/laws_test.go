package ratio_test

import (
	"math/rand"
	"testing"

	"tripwire/api"
	"tripwire/ratio"
)

// triples hands f many triples of fractions.
func triples(f func(a, b, c api.Rat)) {
	r := rand.New(rand.NewSource(3))
	for range 3000 {
		f(chance(r, 4), chance(r, 4), chance(r, 4))
		f(chance(r, 150), chance(r, 150), chance(r, 150))
	}
	some := []api.Rat{{}, frac("1"), frac("-1"), frac("2/3"), frac("-7/2"), frac("18446744073709551616/3"), frac("-3/18446744073709551616")}
	for _, a := range some {
		for _, b := range some {
			for _, c := range some {
				f(a, b, c)
			}
		}
	}
}

// P4.4: fractions are a field.
func TestField(t *testing.T) {
	one := frac("1")
	triples(func(a, b, c api.Rat) {
		same(t, "order of a sum", ratio.Add(a, b), ratio.Add(b, a))
		same(t, "order of a product", ratio.Mul(a, b), ratio.Mul(b, a))
		same(t, "grouping of a sum", ratio.Add(ratio.Add(a, b), c), ratio.Add(a, ratio.Add(b, c)))
		same(t, "grouping of a product", ratio.Mul(ratio.Mul(a, b), c), ratio.Mul(a, ratio.Mul(b, c)))
		same(t, "a product through a sum", ratio.Mul(a, ratio.Add(b, c)), ratio.Add(ratio.Mul(a, b), ratio.Mul(a, c)))
		same(t, "0 added", ratio.Add(a, api.Rat{}), ratio.Norm(a))
		same(t, "times 1", ratio.Mul(a, one), ratio.Norm(a))
		same(t, "a + (-a)", ratio.Add(a, ratio.Neg(a)), api.Rat{})
		same(t, "a - b", ratio.Sub(a, b), ratio.Add(a, ratio.Neg(b)))
		same(t, "-(-a)", ratio.Neg(ratio.Neg(a)), ratio.Norm(a))
		if ratio.Sign(b) != 0 {
			same(t, "b times 1 / b", ratio.Mul(b, ratio.Quo(one, b)), one)
			same(t, "a b / b", ratio.Quo(ratio.Mul(a, b), b), ratio.Norm(a))
			same(t, "a / b b", ratio.Mul(ratio.Quo(a, b), b), ratio.Norm(a))
		}
	})
}

// P4.4: they are in order, which sums, and products with what is above 0, keep.
func TestFieldInOrder(t *testing.T) {
	triples(func(a, b, c api.Rat) {
		order := ratio.Cmp(a, b)
		if order != ratio.Sign(ratio.Sub(a, b)) || order != -ratio.Cmp(b, a) {
			t.Errorf("%v and %v: %d", a, b, order)
		}
		if got := ratio.Cmp(ratio.Add(a, c), ratio.Add(b, c)); got != order {
			t.Errorf("%v and %v, with %v added: %d", a, b, c, got)
		}
		if got := ratio.Cmp(ratio.Mul(a, c), ratio.Mul(b, c)); got != order*ratio.Sign(c) {
			t.Errorf("%v and %v, times %v: %d", a, b, c, got)
		}
		if order <= 0 && ratio.Cmp(b, c) <= 0 && ratio.Cmp(a, c) > 0 {
			t.Errorf("%v, %v and %v: in no order", a, b, c)
		}
	})
}

// P4.4: Floor is at most a, above a - 1; Ceil is at least a, below a + 1.
func TestFloorAndCeil(t *testing.T) {
	one := frac("1")
	each(func(a api.Rat) {
		floor, ceil := ratio.Whole(ratio.Floor(a)), ratio.Whole(ratio.Ceil(a))
		if ratio.Cmp(floor, a) > 0 || ratio.Cmp(floor, ratio.Sub(a, one)) <= 0 {
			t.Errorf("Floor of %v: %v", a, floor)
		}
		if ratio.Cmp(ceil, a) < 0 || ratio.Cmp(ceil, ratio.Add(a, one)) >= 0 {
			t.Errorf("Ceil of %v: %v", a, ceil)
		}
		if ratio.IsWhole(a) != ratio.Same(floor, ceil) {
			t.Errorf("IsWhole of %v", a)
		}
	})
}
