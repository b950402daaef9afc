package ratio_test

import (
	"math/big"
	"testing"

	"tripwire/api"
	"tripwire/ratio"
)

// P4.1: Add, Sub, Mul.
func TestSumsAndProducts(t *testing.T) {
	pairs(func(a, b api.Rat) {
		x, y := toBig(a), toBig(b)
		same(t, "Add", ratio.Add(a, b), fromBig(new(big.Rat).Add(x, y)))
		same(t, "Sub", ratio.Sub(a, b), fromBig(new(big.Rat).Sub(x, y)))
		same(t, "Mul", ratio.Mul(a, b), fromBig(new(big.Rat).Mul(x, y)))
		if t.Failed() {
			t.Fatalf("%v and %v", a, b)
		}
	})
}

// P4.1: Quo and Div, which differ only where b is 0.
func TestQuotients(t *testing.T) {
	pairs(func(a, b api.Rat) {
		quotient, err := ratio.Div(a, b)
		y := toBig(b)
		want, fault := api.Rat{}, api.ErrZero
		if y.Sign() != 0 {
			want, fault = fromBig(y.Quo(toBig(a), y)), api.OK
		}
		same(t, "Quo", ratio.Quo(a, b), want)
		same(t, "Div", quotient, want)
		if err != fault {
			t.Errorf("Div: error %d, want %d", err, fault)
		}
		if t.Failed() {
			t.Fatalf("%v and %v", a, b)
		}
	})
}

// P4.1: Div by each form of 0 is ErrZero, of 0 by 0 too, and nothing stands beside it.
func TestDivByZero(t *testing.T) {
	for _, a := range []api.Rat{{}, frac("5"), frac("-2/3")} {
		for _, zero := range zeros() {
			got, err := ratio.Div(a, zero)
			if err != api.ErrZero {
				t.Errorf("%v / %v: error %d", a, zero, err)
			}
			same(t, "beside ErrZero", got, api.Rat{})
			same(t, "Quo by 0", ratio.Quo(a, zero), api.Rat{})
		}
	}
}

// P4.1: Neg and Abs.
func TestNegAndAbs(t *testing.T) {
	each(func(a api.Rat) {
		x := toBig(a)
		same(t, "Neg", ratio.Neg(a), fromBig(new(big.Rat).Neg(x)))
		same(t, "Abs", ratio.Abs(a), fromBig(new(big.Rat).Abs(x)))
	})
}
