package matrix_test

import (
	"maps"
	"math"
	"math/rand"
	"slices"
	"strconv"
	"strings"
	"testing"

	"tripwire/api"
	"tripwire/ratio"
)

// vec tells the terms that are written out, as they stand: "0:1/2 3:-1". Layers 4 and 5 are taken for right: they have tests of their own.
func vec(text string) api.Vec {
	var out api.Vec
	for _, field := range strings.Fields(text) {
		place, number, _ := strings.Cut(field, ":")
		at, wrong := strconv.Atoi(place)
		x, err := ratio.Parse(number)
		if wrong != nil || err != api.OK {
			panic("no term: " + field)
		}
		out = append(out, api.Term{At: at, X: x})
	}
	return out
}

// columns are such Vecs, one a text.
func columns(texts ...string) []api.Vec {
	var out []api.Vec
	for _, text := range texts {
		out = append(out, vec(text))
	}
	return out
}

// alike tells whether two Vecs stand just alike.
func alike(x, y api.Vec) bool {
	number := func(a, b api.Int) bool { return a.Neg == b.Neg && slices.Equal(a.Abs, b.Abs) }
	return slices.EqualFunc(x, y, func(a, b api.Term) bool {
		return a.At == b.At && number(a.X.Num, b.X.Num) && number(a.X.Den, b.X.Den)
	})
}

// same asks for want, which is in its one form: what isn't in it is never the same.
func same(t *testing.T, what string, got, want api.Vec) {
	t.Helper()
	if !alike(got, want) {
		t.Errorf("%s: got %v, want %v", what, got, want)
	}
}

// sameColumns asks for want likewise, column by column.
func sameColumns(t *testing.T, what string, got, want []api.Vec) {
	t.Helper()
	if !slices.EqualFunc(got, want, alike) {
		t.Errorf("%s: got %v, want %v", what, got, want)
	}
}

// refused asks for that error, and for nothing beside it.
func refused[T any](t *testing.T, what string, got []T, err, want api.Errno) {
	t.Helper()
	if err != want || len(got) != 0 {
		t.Errorf("%s: got %v and error %d, want error %d", what, got, err, want)
	}
}

// table is what a Vec has at each place at which it has terms, with the noughts; that of a sum is gathered by add.
type table map[int]api.Rat

func (numbers table) add(at int, v api.Rat) {
	numbers[at] = ratio.Add(numbers[at], v)
}

func tableOf(x api.Vec) table {
	out := table{}
	for _, term := range x {
		out.add(term.At, term.X)
	}
	return out
}

// vec tells the one form of the Vec that has these numbers.
func (numbers table) vec() api.Vec {
	var out api.Vec
	for _, at := range slices.Sorted(maps.Keys(numbers)) {
		if v := ratio.Norm(numbers[at]); ratio.Sign(v) != 0 {
			out = append(out, api.Term{At: at, X: v})
		}
	}
	return out
}

// numbers are some in their one form, and some that aren't.
func numbers() []api.Rat {
	number := func(neg bool, abs ...uint64) api.Int { return api.Int{Neg: neg, Abs: abs} }
	out := []api.Rat{
		{},
		{Num: number(true)}, // 0
		{Num: number(false, 3), Den: number(false, 6)},     // 1/2
		{Num: number(false, 1), Den: number(true, 2)},      // -1/2
		{Num: number(true, 2), Den: number(true)},          // -2: a Den without digits is 1
		{Num: number(false, 5, 0), Den: number(false, 1)},  // 5
		{Num: number(false, 9), Den: number(false, 0)},     // 0: by 0
		{Num: number(true, 0, 6), Den: number(true, 0, 4)}, // 3/2
	}
	for _, term := range vec("0:1 0:-1 0:2 0:7/3 0:-2/3 0:1/2 0:-18446744073709551617/3") {
		out = append(out, term.X)
	}
	return out
}

// odd is a Vec of a few terms in any form: in no order, some at one place, some below 0 or far off, some that come to 0.
func odd(r *rand.Rand) api.Vec {
	far := []int{math.MinInt, math.MinInt + 1, math.MaxInt - 1, math.MaxInt, 1 << 32, -1 << 32}
	some := numbers()
	var out api.Vec
	for range r.Intn(9) {
		at := r.Intn(9) - 2
		if r.Intn(9) == 0 {
			at = far[r.Intn(len(far))]
		}
		v := some[r.Intn(len(some))]
		out = append(out, api.Term{At: at, X: v})
		if r.Intn(5) == 0 {
			out = append(out, api.Term{At: at, X: ratio.Neg(v)})
		}
	}
	r.Shuffle(len(out), func(i, j int) { out[i], out[j] = out[j], out[i] })
	return out
}

// right is a Vec in its one form with places from 0 on and below n.
func right(r *rand.Rand, n int) api.Vec {
	out, some := table{}, numbers()
	for at := range n {
		if r.Intn(3) > 0 {
			out[at] = some[r.Intn(len(some))]
		}
	}
	return out.vec()
}

// few tells up to 6 Vecs that one makes.
func few(r *rand.Rand, one func() api.Vec) []api.Vec {
	var out []api.Vec
	for range r.Intn(7) {
		out = append(out, one())
	}
	return out
}

// each hands f many matrices with a Vec beside each, both in any form; the same ones in each run.
func each(f func(cols []api.Vec, x api.Vec)) {
	r := rand.New(rand.NewSource(11))
	for range 1500 {
		f(few(r, func() api.Vec { return odd(r) }), odd(r))
	}
}

// orders hands f all lists of up to 5 numbers from -1 to 5.
func orders(f func(p []int)) {
	var longer func(p []int)
	longer = func(p []int) {
		f(p)
		for at := -1; at <= 5 && len(p) < 5; at++ {
			longer(append(slices.Clone(p), at))
		}
	}
	longer(nil)
}

// isOrder tells by the chapter's words whether p is an order.
func isOrder(p []int) bool {
	sorted := slices.Sorted(slices.Values(p))
	for i, at := range sorted {
		if i != at {
			return false
		}
	}
	return true
}
