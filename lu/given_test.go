package lu_test

import (
	"math/rand"
	"slices"
	"strconv"
	"strings"
	"testing"

	"tripwire/api"
	"tripwire/lu"
	"tripwire/ratio"
)

// vec tells the terms that are written out, as they stand: "0:1/2 3:-1". Layers 4 to 6 are taken for right: they have tests of their own.
func vec(text string) api.Vec {
	var out api.Vec
	for _, field := range strings.Fields(text) {
		place, number, _ := strings.Cut(field, ":")
		at, wrong := strconv.Atoi(place)
		x, err := ratio.Parse(number)
		if wrong != nil || err != api.OK {
			panic("no term: " + field)
		}
		out = append(out, api.Term{At: at, X: x})
	}
	return out
}

// columns are such Vecs, one a text.
func columns(texts ...string) []api.Vec {
	var out []api.Vec
	for _, text := range texts {
		out = append(out, vec(text))
	}
	return out
}

// picture tells the columns of a square matrix that is written out row by row: "2 1/0 1"; its numbers are whole.
func picture(text string) []api.Vec {
	rows := strings.Split(text, "/")
	out := make([]api.Vec, len(rows))
	for i, row := range rows {
		for k, number := range strings.Fields(row) {
			if number != "0" {
				out[k] = append(out[k], vec(strconv.Itoa(i)+":"+number)...)
			}
		}
	}
	return out
}

// unit is column k of the n that span the most plainly.
func unit(k int) api.Vec {
	return api.Vec{{At: k, X: ratio.Of(1, 1)}}
}

func units(n int) []api.Vec {
	out := make([]api.Vec, n)
	for k := range n {
		out[k] = unit(k)
	}
	return out
}

// alike tells whether two Vecs stand just alike.
func alike(x, y api.Vec) bool {
	number := func(a, b api.Int) bool { return a.Neg == b.Neg && slices.Equal(a.Abs, b.Abs) }
	return slices.EqualFunc(x, y, func(a, b api.Term) bool {
		return a.At == b.At && number(a.X.Num, b.X.Num) && number(a.X.Den, b.X.Den)
	})
}

// same asks for want, which is in its one form: what isn't in it is never the same.
func same(t *testing.T, what string, got, want api.Vec) {
	t.Helper()
	if !alike(got, want) {
		t.Errorf("%s: got %v, want %v", what, got, want)
	}
}

// refused asks for that error, and for nothing beside it.
func refused(t *testing.T, what string, got api.Vec, err, want api.Errno) {
	t.Helper()
	if err != want || len(got) != 0 {
		t.Errorf("%s: got %v and error %d, want error %d", what, got, err, want)
	}
}

// factored tells the LU of columns that have one.
func factored(t *testing.T, cols []api.Vec) *lu.LU {
	t.Helper()
	f, err := lu.Factor(cols, len(cols))
	if f == nil || err != api.OK {
		t.Fatalf("Factor(%v): error %d", cols, err)
	}
	return f
}

// ftran tells x of b, which may be one.
func ftran(t *testing.T, f *lu.LU, b api.Vec) api.Vec {
	t.Helper()
	x, err := f.Ftran(b)
	if err != api.OK {
		t.Errorf("Ftran(%v): error %d", b, err)
	}
	return x
}

// btran tells y of c, which may be one.
func btran(t *testing.T, f *lu.LU, c api.Vec) api.Vec {
	t.Helper()
	y, err := f.Btran(c)
	if err != api.OK {
		t.Errorf("Btran(%v): error %d", c, err)
	}
	return y
}

// some are numbers of which sums often come to 0, and a few that are longer.
func some() []api.Rat {
	var out []api.Rat
	for _, term := range vec("0:1 0:1 0:1 0:-1 0:-1 0:2 0:-2 0:1/2 0:-1/2 0:3 0:-7/3 0:-18446744073709551617/3") {
		out = append(out, term.X)
	}
	return out
}

// chance is a Vec in its one form with places below n, at about one in every so many of them.
func chance(r *rand.Rand, n, every int) api.Vec {
	var out api.Vec
	numbers := some()
	for at := range n {
		if r.Intn(every) == 0 {
			out = append(out, api.Term{At: at, X: numbers[r.Intn(len(numbers))]})
		}
	}
	return out
}

// square is a matrix of n such columns.
func square(r *rand.Rand, n, every int) []api.Vec {
	out := make([]api.Vec, n)
	for k := range n {
		out[k] = chance(r, n, every)
	}
	return out
}

// each hands f many square matrices, with an LU or without, from full to nearly empty; the same ones in each run. It stops at the first that fails.
func each(t *testing.T, f func(cols []api.Vec, r *rand.Rand)) {
	t.Helper()
	r := rand.New(rand.NewSource(21))
	for round := range 250 {
		for n := range 8 {
			if f(square(r, n, 1+r.Intn(4)), r); t.Failed() {
				return
			}
		}
		if round%12 > 0 {
			continue
		}
		if f(likely(r, 20), r); t.Failed() {
			return
		}
	}
}

// likely is a matrix of n columns, nearly empty, but most often with an LU.
func likely(r *rand.Rand, n int) []api.Vec {
	cols := square(r, n, 9)
	for k := range cols {
		if r.Intn(n) > 0 {
			cols[k] = withOne(cols[k], k)
		}
	}
	r.Shuffle(n, func(i, j int) { cols[i], cols[j] = cols[j], cols[i] })
	return cols
}

// withOne tells x with 1 at that place.
func withOne(x api.Vec, at int) api.Vec {
	others := slices.DeleteFunc(slices.Clone(x), func(term api.Term) bool { return term.At == at })
	out := append(others, unit(at)...)
	slices.SortFunc(out, func(a, b api.Term) int { return a.At - b.At })
	return out
}

// eachLU hands f those matrices of each that have an LU, with it.
func eachLU(t *testing.T, f func(cols []api.Vec, made *lu.LU, r *rand.Rand)) {
	t.Helper()
	found := 0
	each(t, func(cols []api.Vec, r *rand.Rand) {
		if made, err := lu.Factor(cols, len(cols)); err == api.OK {
			found++
			f(cols, made, r)
		}
	})
	if found < 500 && !t.Failed() {
		t.Errorf("only %d of the matrices have an LU", found)
	}
}
