package matrix_test

import (
	"math/rand"
	"slices"
	"testing"

	"tripwire/api"
	"tripwire/matrix"
)

// call is one that takes some of these, with what it tells: Vecs or an order.
type call func(cols []api.Vec, x api.Vec, p []int) ([]api.Vec, []int)

func calls() map[string]call {
	return map[string]call{
		"Right": func(cols []api.Vec, _ api.Vec, _ []int) ([]api.Vec, []int) { matrix.Right(cols, 5); return nil, nil },
		"Times": func(cols []api.Vec, x api.Vec, _ []int) ([]api.Vec, []int) {
			return []api.Vec{matrix.Times(cols, x)}, nil
		},
		"Left": func(cols []api.Vec, x api.Vec, _ []int) ([]api.Vec, []int) {
			return []api.Vec{matrix.Left(x, cols)}, nil
		},
		"Turn": func(cols []api.Vec, _ api.Vec, _ []int) ([]api.Vec, []int) {
			out, _ := matrix.Turn(cols, 5)
			return out, nil
		},
		"Perm": func(_ []api.Vec, _ api.Vec, p []int) ([]api.Vec, []int) { matrix.Perm(p); return nil, nil },
		"Inverse": func(_ []api.Vec, _ api.Vec, p []int) ([]api.Vec, []int) {
			out, _ := matrix.Inverse(p)
			return nil, out
		},
		"Move": func(_ []api.Vec, x api.Vec, p []int) ([]api.Vec, []int) {
			out, _ := matrix.Move(p, x)
			return []api.Vec{out}, nil
		},
	}
}

// roomy tells l again, with something in the room behind it.
func roomy[T any](l []T, behind T) []T {
	return append(slices.Clone(l), behind, behind, behind)[:len(l)]
}

// hold tells x again, in memory of its own and with room behind each list.
func hold(x api.Vec) api.Vec {
	out := slices.Clone(x)
	for i := range out {
		v := &out[i].X
		v.Num.Abs, v.Den.Abs = roomy(v.Num.Abs, 7), roomy(v.Den.Abs, 7)
	}
	return roomy(out, vec("77:7")[0])
}

func holdAll(cols []api.Vec) []api.Vec {
	out := make([]api.Vec, len(cols))
	for k, col := range cols {
		out[k] = hold(col)
	}
	return roomy(out, vec("78:8"))
}

// untouched tells whether what x has, and the room behind it, is still as hold made it.
func untouched(x, was api.Vec) bool {
	if !alike(x, was) || !alike(x[:len(x)+3][len(x):], vec("77:7 77:7 77:7")) {
		return false
	}
	full := func(list []uint64) bool { return slices.Equal(list[:len(list)+3][len(list):], []uint64{7, 7, 7}) }
	for _, term := range x {
		if !full(term.X.Num.Abs) || !full(term.X.Den.Abs) {
			return false
		}
	}
	return true
}

func allUntouched(cols, was []api.Vec) bool {
	room := func(col api.Vec) bool { return alike(col, vec("78:8")) }
	for _, col := range cols[:len(cols)+3][len(cols):] {
		if !room(col) {
			return false
		}
	}
	return slices.EqualFunc(cols, was, untouched)
}

// R3: what is handed in isn't changed, its spare room neither, even when what is told is written over.
func TestNothingChanged(t *testing.T) {
	r := rand.New(rand.NewSource(18))
	for name, do := range calls() {
		for range 300 {
			wasCols, wasX := few(r, func() api.Vec { return odd(r) }), odd(r)
			if r.Intn(2) == 0 {
				wasCols, wasX = few(r, func() api.Vec { return right(r, 5) }), right(r, 5)
			}
			wasP := r.Perm(5)
			cols, x, p := holdAll(wasCols), hold(wasX), roomy(wasP, 70)
			out, order := do(cols, x, p)
			for _, col := range out {
				clear(col[:cap(col)])
			}
			clear(out)
			clear(order[:cap(order)])
			if !allUntouched(cols, wasCols) || !untouched(x, wasX) || !slices.Equal(p[:8], append(wasP, 70, 70, 70)) {
				t.Fatalf("%s of %v, %v and %v: what was handed in has changed", name, wasCols, wasX, wasP)
			}
		}
	}
}

// R3: what is handed in isn't kept: what is told stays as it is when the former is written over.
func TestNothingKept(t *testing.T) {
	r := rand.New(rand.NewSource(19))
	for name, do := range calls() {
		for range 100 {
			cols, x, p := few(r, func() api.Vec { return right(r, 5) }), right(r, 5), r.Perm(5)
			want, wantOrder := do(holdAll(cols), hold(x), slices.Clone(p))
			got, gotOrder := do(cols, x, p)
			for _, col := range cols {
				clear(col)
			}
			clear(cols)
			clear(x)
			clear(p)
			if !slices.EqualFunc(got, want, alike) || !slices.Equal(gotOrder, wantOrder) {
				t.Fatalf("%s: what it told has changed: %v %v, was %v %v", name, got, gotOrder, want, wantOrder)
			}
		}
	}
}

// R3: no two columns that Turn tells share a list, their spare room neither.
func TestColumnsApart(t *testing.T) {
	cols := columns("0:1 1:2 2:3", "0:4 2:5", "2:6 1:1/2")
	for i := range 3 {
		got, _ := matrix.Turn(cols, 3)
		want, _ := matrix.Turn(cols, 3)
		clear(got[i][:cap(got[i])])
		got[i] = want[i]
		sameColumns(t, "Turn, one column written over", got, want)
	}
}
