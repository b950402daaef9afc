package ratio_test

import (
	"math/big"
	"math/rand"
	"slices"
	"testing"

	"tripwire/api"
)

// toBig says what a Rat counts, by the library's numbers, which the tests take for right.
func toBig(a api.Rat) *big.Rat {
	num, den := bigInt(a.Num), bigInt(a.Den)
	switch {
	case len(a.Den.Abs) == 0:
		den = big.NewInt(1)
	case den.Sign() == 0:
		return new(big.Rat)
	}
	return new(big.Rat).SetFrac(num, den)
}

func bigInt(a api.Int) *big.Int {
	words := make([]big.Word, len(a.Abs))
	for i, digit := range a.Abs {
		words[i] = big.Word(digit)
	}
	out := new(big.Int).SetBits(words)
	if a.Neg {
		out.Neg(out)
	}
	return out
}

// fromBig tells the one form of a fraction.
func fromBig(x *big.Rat) api.Rat {
	out := api.Rat{Num: wholeOf(x.Num())}
	if !x.IsInt() {
		out.Den = wholeOf(x.Denom())
	}
	return out
}

// wholeOf tells the one form of a whole number.
func wholeOf(x *big.Int) api.Int {
	out := api.Int{Neg: x.Sign() < 0}
	for _, word := range x.Bits() {
		out.Abs = append(out.Abs, uint64(word))
	}
	return out
}

// frac tells the one form of a fraction that is written out.
func frac(text string) api.Rat {
	x, ok := new(big.Rat).SetString(text)
	if !ok {
		panic("no fraction: " + text)
	}
	return fromBig(x)
}

// same asks for want, which is in its one form: what isn't in it is never the same.
func same(t *testing.T, what string, got, want api.Rat) {
	t.Helper()
	if !equalInt(got.Num, want.Num) || !equalInt(got.Den, want.Den) {
		t.Errorf("%s: got %v, want %v", what, got, want)
	}
}

// sameWhole asks for want, which is in its one form.
func sameWhole(t *testing.T, what string, got, want api.Int) {
	t.Helper()
	if !equalInt(got, want) {
		t.Errorf("%s: got %v, want %v", what, got, want)
	}
}

func equalInt(a, b api.Int) bool {
	return a.Neg == b.Neg && slices.Equal(a.Abs, b.Abs)
}

// ends are whole numbers above 0 at which digits end, or that have much in common with others.
func ends() []*big.Int {
	var out []*big.Int
	for _, text := range []string{
		"1", "2", "3", "4", "6", "30", "0x7fffffffffffffff", "0x8000000000000000",
		"0xffffffffffffffff", "0x10000000000000000", "0x10000000000000001", "0x30000000000000000",
		"0xffffffffffffffffffffffffffffffff", "0xfffffffffffffffe0000000000000001", "0x5555555555555555",
	} {
		x, _ := new(big.Int).SetString(text, 0)
		out = append(out, x)
	}
	return out
}

// fractions are those of each two of the ends, on both sides of 0, and 0; each once.
func fractions() []api.Rat {
	out := []api.Rat{{}}
	seen := map[string]bool{}
	for _, num := range ends() {
		for _, den := range ends() {
			x := new(big.Rat).SetFrac(num, den)
			if !seen[x.String()] {
				seen[x.String()] = true
				out = append(out, fromBig(x), fromBig(new(big.Rat).Neg(x)))
			}
		}
	}
	return out
}

// forms are other ways to write a, and its one form.
func forms(a api.Rat) []api.Rat {
	num, den := a.Num, a.Den
	if len(den.Abs) == 0 {
		den = api.Int{Abs: []uint64{1}}
	}
	turned := func(x api.Int) api.Int { return api.Int{Neg: !x.Neg, Abs: x.Abs} }
	topped := func(x api.Int) api.Int { return api.Int{Neg: x.Neg, Abs: append(slices.Clone(x.Abs), 0, 0)} }
	times := func(x api.Int, n string) api.Int {
		by, _ := new(big.Int).SetString(n, 10)
		return wholeOf(by.Mul(by, bigInt(x)))
	}
	out := []api.Rat{
		a,
		{Num: turned(num), Den: turned(den)},
		{Num: topped(num), Den: topped(den)},
		{Num: times(num, "6"), Den: times(den, "6")},
		{Num: times(num, "-340282366920938463463374607431768211456"), Den: times(den, "-340282366920938463463374607431768211456")},
	}
	if len(a.Den.Abs) == 0 {
		out = append(out, api.Rat{Num: topped(num), Den: api.Int{Neg: true}}, api.Rat{Num: num, Den: api.Int{Abs: []uint64{}}})
	}
	return out
}

// zeros are the forms of 0.
func zeros() []api.Rat {
	var out []api.Rat
	for _, neg := range []bool{false, true} {
		for _, size := range [][]uint64{nil, {}, {0}, {0, 0}} {
			for _, den := range []api.Int{{}, {Neg: true}, {Abs: []uint64{0}}, {Abs: []uint64{1}}, {Neg: true, Abs: []uint64{7, 0}}} {
				out = append(out, api.Rat{Num: api.Int{Neg: neg, Abs: size}, Den: den})
			}
		}
		for _, nought := range [][]uint64{{0}, {0, 0, 0}} { // divided by 0
			for _, num := range []api.Int{{Abs: []uint64{5}}, {Neg: true, Abs: []uint64{0, 1}}} {
				out = append(out, api.Rat{Num: num, Den: api.Int{Neg: neg, Abs: nought}})
			}
		}
	}
	return out
}

// chance is a fraction of numbers of that many bits at most, in no matter what form; now and then divided by 0.
func chance(r *rand.Rand, bits uint) api.Rat {
	under := new(big.Int).Lsh(big.NewInt(1), 1+uint(r.Intn(int(bits))))
	number := func() api.Int {
		x := wholeOf(new(big.Int).Rand(r, under))
		x.Neg = r.Intn(2) == 1
		x.Abs = append(x.Abs, make([]uint64, r.Intn(2))...)
		return x
	}
	return api.Rat{Num: number(), Den: number()}
}

// each hands f the fractions in all of their forms, and many others.
func each(f func(a api.Rat)) {
	for _, a := range zeros() {
		f(a)
	}
	for _, a := range fractions() {
		for _, form := range forms(a) {
			f(form)
		}
	}
	r := rand.New(rand.NewSource(1)) // the same numbers in each run
	for range 4000 {
		f(chance(r, 5))
		f(chance(r, 300))
	}
}

// pairs hands f each two of the fractions, some of them in other forms, and many other pairs.
func pairs(f func(a, b api.Rat)) {
	all := fractions()
	for i, a := range all {
		for j, b := range all {
			f(a, b)
			if i%7 == j%7 {
				some, others := forms(a), forms(b)
				f(some[j%len(some)], others[i%len(others)])
			}
		}
	}
	for _, a := range zeros() {
		for _, b := range append(zeros(), frac("-3/2"), frac("5"), frac("1/18446744073709551616")) {
			f(a, b)
			f(b, a)
		}
	}
	r := rand.New(rand.NewSource(2))
	for range 4000 {
		f(chance(r, 4), chance(r, 4))
		f(chance(r, 64), chance(r, 64))
		f(chance(r, 400), chance(r, 400))
	}
}
