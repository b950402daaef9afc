package sparse_test

import (
	"maps"
	"math"
	"math/rand"
	"slices"
	"strconv"
	"strings"
	"testing"

	"tripwire/api"
	"tripwire/ratio"
)

// frac tells the one form of a fraction that is written out. Layer 4 is taken for right: it has tests of its own.
func frac(text string) api.Rat {
	a, err := ratio.Parse(text)
	if err != api.OK {
		panic("no fraction: " + text)
	}
	return a
}

// vec tells the terms that are written out, as they stand: "0: 1/2, 3: -1".
func vec(text string) api.Vec {
	var out api.Vec
	if text == "" {
		return out
	}
	for _, part := range strings.Split(text, ", ") {
		place, number, _ := strings.Cut(part, ": ")
		at, err := strconv.Atoi(place)
		if err != nil {
			panic("no term: " + part)
		}
		out = append(out, api.Term{At: at, X: frac(number)})
	}
	return out
}

func equalInt(a, b api.Int) bool {
	return a.Neg == b.Neg && slices.Equal(a.Abs, b.Abs)
}

// equal tells whether two numbers stand just alike.
func equal(a, b api.Rat) bool {
	return equalInt(a.Num, b.Num) && equalInt(a.Den, b.Den)
}

// alike tells whether two Vecs stand just alike.
func alike(x, y api.Vec) bool {
	return slices.EqualFunc(x, y, func(a, b api.Term) bool { return a.At == b.At && equal(a.X, b.X) })
}

// same asks for want, which is in its one form: what isn't in it is never the same.
func same(t *testing.T, what string, got, want api.Vec) {
	t.Helper()
	if !alike(got, want) {
		t.Errorf("%s: got %v, want %v", what, got, want)
	}
}

// sameNumber asks for want, which is in its one form.
func sameNumber(t *testing.T, what string, got, want api.Rat) {
	t.Helper()
	if !equal(got, want) {
		t.Errorf("%s: got %v, want %v", what, got, want)
	}
}

// table tells what x has at each place at which it has terms, by the chapter's words, in no order and with the noughts.
func table(x []api.Term) map[int]api.Rat {
	out := map[int]api.Rat{}
	for _, term := range x {
		out[term.At] = ratio.Add(out[term.At], term.X)
	}
	return out
}

// fromTable tells the one form of the Vec that has these numbers.
func fromTable(numbers map[int]api.Rat) api.Vec {
	var out api.Vec
	for _, at := range slices.Sorted(maps.Keys(numbers)) {
		if v := ratio.Norm(numbers[at]); ratio.Sign(v) != 0 {
			out = append(out, api.Term{At: at, X: v})
		}
	}
	return out
}

// byPlace tells the one form of the Vec that has at each place of x and y what do makes of both.
func byPlace(x, y api.Vec, do func(v, w api.Rat) api.Rat) api.Vec {
	xs, ys := table(x), table(y)
	out := map[int]api.Rat{}
	for at := range xs {
		out[at] = do(xs[at], ys[at])
	}
	for at := range ys {
		out[at] = do(xs[at], ys[at])
	}
	return fromTable(out)
}

// odd are numbers that aren't in their one form.
func odd() []api.Rat {
	number := func(neg bool, abs ...uint64) api.Int { return api.Int{Neg: neg, Abs: abs} }
	return []api.Rat{
		{Num: number(false, 3), Den: number(false, 6)},         // 1/2
		{Num: number(false, 1), Den: number(true, 2)},          // -1/2
		{Num: number(true, 3), Den: number(true, 2)},           // 3/2
		{Num: number(false, 5), Den: number(false, 1)},         // 5
		{Num: number(false, 4), Den: number(true, 1)},          // -4
		{Num: number(false, 7, 0, 0)},                          // 7
		{Num: number(false, 1), Den: number(false, 3, 0)},      // 1/3
		{Num: number(false, 0, 6), Den: number(false, 0, 4)},   // 3/2
		{Num: number(true, 2), Den: number(true)},              // -2: a Den without digits is 1, whatever its Neg
		{Num: number(false, 9), Den: number(false, 0)},         // 0: by 0
		{Num: number(true, 9), Den: number(true, 0, 0)},        // 0: by 0
		{Num: number(true)},                                    // 0
		{Num: number(true, 0, 0), Den: number(true, 3)},        // 0
		{Num: api.Int{}, Den: number(false, 1)},                // 0
		{Num: number(false, 0), Den: number(true)},             // 0
		{Num: number(true, 0, 1), Den: number(false, 0, 0, 1)}, // -1/2^64
	}
}

// tidy are numbers in their one form.
func tidy() []api.Rat {
	var out []api.Rat
	for _, text := range []string{"0", "1", "-1", "2", "-2", "5", "1/2", "-1/2", "3/2", "1/3", "-2/3", "7/6", "18446744073709551616", "-18446744073709551617/3", "1/340282366920938463463374607431768211456"} {
		out = append(out, frac(text))
	}
	return out
}

// chance is a Vec of a few terms at a few places, in no order, some of them at one place, some of them 0 or not in their one form.
func chance(r *rand.Rand) api.Vec {
	numbers := append(append(tidy(), tidy()...), odd()...)
	ends := []int{math.MinInt, math.MinInt + 1, math.MaxInt - 1, math.MaxInt, 1 << 32, -1 << 32}
	var out api.Vec
	for range r.Intn(12) {
		at := r.Intn(10) - 3
		if r.Intn(8) == 0 {
			at = ends[r.Intn(len(ends))]
		}
		v := numbers[r.Intn(len(numbers))]
		out = append(out, api.Term{At: at, X: v})
		if r.Intn(4) == 0 { // so that sums come to 0
			out = append(out, api.Term{At: at, X: ratio.Neg(v)})
		}
	}
	switch r.Intn(3) {
	case 0:
		r.Shuffle(len(out), func(i, j int) { out[i], out[j] = out[j], out[i] })
	case 1:
		out = fromTable(table(out))
	}
	return out
}

// edges are Vecs at the edges that the chapter names.
func edges() []api.Vec {
	out := []api.Vec{nil, {}}
	for _, text := range []string{
		"0: 0", "0: 1", "0: 1, 0: -1", "1: 1, 0: 1", "0: 1, 1: 1", "0: 1/2, 0: 1/2", "5: 0, 3: 0, 4: 0", "2: 1, 0: 1/2, 2: -1",
		"-1: 1", "-1: 1/2, 0: 1, 1: 2", "3: 2, 3: -2, 4: 1", "1: 5", "0: 1/3, 1: 1/3, 2: 1/3", "2: 1, 1: 1, 0: 1, 2: 1, 1: 1, 0: 1",
		"9223372036854775807: 1, -9223372036854775808: 1", "-9223372036854775808: 2, 9223372036854775807: -2",
	} {
		out = append(out, vec(text))
	}
	for _, v := range odd() {
		out = append(out, api.Vec{{At: 1, X: v}}, api.Vec{{At: 1, X: v}, {At: 0, X: frac("1/6")}, {At: 1, X: frac("-1/2")}})
	}
	return out
}

// each hands f the edges and many other Vecs, the same ones in each run.
func each(f func(x api.Vec)) {
	for _, x := range edges() {
		f(x)
	}
	r := rand.New(rand.NewSource(5))
	for range 2000 {
		f(chance(r))
	}
}

// pairs hands f each two of the edges, and many other pairs.
func pairs(f func(x, y api.Vec)) {
	for _, x := range edges() {
		for _, y := range edges() {
			f(x, y)
		}
	}
	r := rand.New(rand.NewSource(6))
	for range 2000 {
		f(chance(r), chance(r))
	}
}

// places are such at which the Vecs have something, and others.
func places() []int {
	return []int{math.MinInt, -1 << 32, -2, -1, 0, 1, 2, 3, 5, 9, 1 << 32, math.MaxInt - 1, math.MaxInt}
}

// factors are the numbers of both kinds.
func factors() []api.Rat {
	return append(tidy(), odd()...)
}
