package ratio_test

import (
	"math"
	"math/big"
	"testing"

	"tripwire/api"
	"tripwire/ratio"
)

// The chapter's examples.
func TestExamples(t *testing.T) {
	same(t, "Of(6, -4)", ratio.Of(6, -4), frac("-3/2"))
	same(t, "Of(4, 2)", ratio.Of(4, 2), api.Rat{Num: api.Int{Abs: []uint64{2}}})
	same(t, "Of(1, 0)", ratio.Of(1, 0), api.Rat{})
	same(t, "1/2 + 1/3", ratio.Add(frac("1/2"), frac("1/3")), frac("5/6"))
	same(t, "1/2 + 1/2", ratio.Add(frac("1/2"), frac("1/2")), frac("1"))
	same(t, "1/2 / -1/4", ratio.Quo(frac("1/2"), frac("-1/4")), frac("-2"))
	if _, err := ratio.Div(frac("1"), frac("0")); err != api.ErrZero {
		t.Errorf("1 / 0: error %d", err)
	}
	sameWhole(t, "Floor(-3/2)", ratio.Floor(frac("-3/2")), frac("-2").Num)
	sameWhole(t, "Ceil(-3/2)", ratio.Ceil(frac("-3/2")), frac("-1").Num)
	reads(t, "-6/4", frac("-3/2"))
	if got := ratio.Text(frac("-6/4")); got != "-3/2" {
		t.Errorf("Text of -6/4: %q", got)
	}
	refused(t, "1/0", api.ErrZero)
	for _, text := range []string{"1/-2", "/2", "1/", "1/02"} {
		refused(t, text, api.ErrDigits)
	}
}

// P4.1: Of, at the ends of an int64 and near 0.
func TestOf(t *testing.T) {
	some := []int64{math.MinInt64, math.MinInt64 + 1, -1 << 32, -12, -7, -6, -4, -3, -2, -1, 0, 1, 2, 3, 4, 6, 7, 12, 1 << 32, math.MaxInt64 - 1, math.MaxInt64}
	for _, n := range some {
		for _, d := range some {
			want := new(big.Rat)
			if d != 0 {
				want.SetFrac64(n, d)
			}
			same(t, "Of", ratio.Of(n, d), fromBig(want))
		}
	}
	same(t, "-2^63 / -1", ratio.Of(math.MinInt64, -1), frac("9223372036854775808"))
}

// P4.1: Make; an empty den is 0 here, unlike in a Rat.
func TestMake(t *testing.T) {
	each(func(a api.Rat) {
		want := new(big.Rat)
		if den := bigInt(a.Den); den.Sign() != 0 {
			want.SetFrac(bigInt(a.Num), den)
		}
		same(t, "Make", ratio.Make(a.Num, a.Den), fromBig(want))
	})
	for _, den := range []api.Int{{}, {Neg: true}, {Abs: []uint64{}}, {Abs: []uint64{0}}, {Neg: true, Abs: []uint64{0, 0}}} {
		same(t, "by 0", ratio.Make(api.Int{Neg: true, Abs: []uint64{7, 7}}, den), api.Rat{})
	}
}

// P4.1: Norm of all forms, and of those that are told already.
func TestNorm(t *testing.T) {
	each(func(a api.Rat) {
		once := ratio.Norm(a)
		same(t, "Norm", once, fromBig(toBig(a)))
		same(t, "Norm of Norm", ratio.Norm(once), once)
	})
}

// The words on Rats: what an empty Den stands for, whatever its Neg; a Den of 0; its sign.
func TestWhatARatCounts(t *testing.T) {
	five, minusFive := api.Int{Abs: []uint64{5}}, api.Int{Neg: true, Abs: []uint64{5, 0}}
	for _, c := range []struct {
		what string
		a    api.Rat
		want string
	}{
		{"an empty Den", api.Rat{Num: minusFive}, "-5"},
		{"an empty Den that is Neg", api.Rat{Num: five, Den: api.Int{Neg: true}}, "5"},
		{"an empty list as Den, that is Neg", api.Rat{Num: minusFive, Den: api.Int{Neg: true, Abs: []uint64{}}}, "-5"},
		{"a Den that is 0", api.Rat{Num: five, Den: api.Int{Abs: []uint64{0}}}, "0"},
		{"a Den that is 0 and Neg", api.Rat{Num: minusFive, Den: api.Int{Neg: true, Abs: []uint64{0, 0}}}, "0"},
		{"a Den below 0", api.Rat{Num: five, Den: api.Int{Neg: true, Abs: []uint64{2, 0}}}, "-5/2"},
		{"both below 0", api.Rat{Num: minusFive, Den: api.Int{Neg: true, Abs: []uint64{2}}}, "5/2"},
		{"a Den of 1", api.Rat{Num: five, Den: api.Int{Abs: []uint64{1, 0}}}, "5"},
		{"a Den of -1", api.Rat{Num: five, Den: api.Int{Neg: true, Abs: []uint64{1}}}, "-5"},
		{"a Num of 0 that is Neg", api.Rat{Num: api.Int{Neg: true, Abs: []uint64{0}}, Den: five}, "0"},
	} {
		same(t, c.what, ratio.Norm(c.a), frac(c.want))
		if got := ratio.Text(c.a); got != c.want {
			t.Errorf("%s: Text %q, want %q", c.what, got, c.want)
		}
	}
}

// P4.1: Whole.
func TestWhole(t *testing.T) {
	each(func(a api.Rat) {
		same(t, "Whole", ratio.Whole(a.Num), api.Rat{Num: wholeOf(bigInt(a.Num))})
	})
}
