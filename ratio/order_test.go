package ratio_test

import (
	"math/big"
	"testing"

	"tripwire/api"
	"tripwire/ratio"
)

// P4.2: forms of one fraction are the same, of two neighbours in order.
func TestFormsInOrder(t *testing.T) {
	for _, c := range []struct {
		a, b string
		want int
	}{
		{"1/3", "333333333333333333333/1000000000000000000000", 1},
		{"-1/3", "-333333333333333333333/1000000000000000000000", -1},
		{"18446744073709551615/18446744073709551616", "18446744073709551616/18446744073709551617", -1},
		{"2", "18446744073709551617/9223372036854775808", -1},
		{"-5", "-4", -1},
		{"7/2", "7/2", 0},
		{"-7/2", "7/2", -1},
		{"0", "1/18446744073709551616", -1},
		{"0", "-1/18446744073709551616", 1},
	} {
		for _, a := range forms(frac(c.a)) {
			for _, b := range forms(frac(c.b)) {
				if got, back := ratio.Cmp(a, b), ratio.Cmp(b, a); got != c.want || back != -c.want {
					t.Errorf("%s and %s: %d, and %d from behind", c.a, c.b, got, back)
				}
			}
		}
	}
}

// P4.2: Cmp, Same, Max, Min.
func TestOrder(t *testing.T) {
	pairs(func(a, b api.Rat) {
		x, y := toBig(a), toBig(b)
		order := x.Cmp(y)
		if got := ratio.Cmp(a, b); got != order {
			t.Errorf("Cmp: %d, want %d", got, order)
		}
		if got := ratio.Same(a, b); got != (order == 0) {
			t.Errorf("Same: %t", got)
		}
		greater, lesser := x, y
		if order < 0 {
			greater, lesser = y, x
		}
		same(t, "Max", ratio.Max(a, b), fromBig(greater))
		same(t, "Min", ratio.Min(a, b), fromBig(lesser))
		if t.Failed() {
			t.Fatalf("%v and %v", a, b)
		}
	})
}

// P4.2: Sign, Floor, Ceil, IsWhole.
func TestSignAndWholeNumbersNear(t *testing.T) {
	one := big.NewInt(1)
	each(func(a api.Rat) {
		x := toBig(a)
		if got := ratio.Sign(a); got != x.Sign() {
			t.Errorf("Sign: %d", got)
		}
		if got := ratio.IsWhole(a); got != x.IsInt() {
			t.Errorf("IsWhole: %t", got)
		}
		floor := new(big.Int).Div(x.Num(), x.Denom()) // the library's, whose rest is never below 0
		ceil := new(big.Int).Set(floor)
		if !x.IsInt() {
			ceil.Add(ceil, one)
		}
		sameWhole(t, "Floor", ratio.Floor(a), wholeOf(floor))
		sameWhole(t, "Ceil", ratio.Ceil(a), wholeOf(ceil))
		if t.Failed() {
			t.Fatalf("%v", a)
		}
	})
}
