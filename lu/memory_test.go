package lu_test

import (
	"math/rand"
	"slices"
	"testing"

	"tripwire/api"
	"tripwire/lu"
)

// roomy tells l again, with something in the room behind it.
func roomy[T any](l []T, behind T) []T {
	return append(slices.Clone(l), behind, behind, behind)[:len(l)]
}

// hold tells x again, in memory of its own and with room behind each list.
func hold(x api.Vec) api.Vec {
	out := slices.Clone(x)
	for i := range out {
		v := &out[i].X
		v.Num.Abs, v.Den.Abs = roomy(v.Num.Abs, 7), roomy(v.Den.Abs, 7)
	}
	return roomy(out, vec("77:7")[0])
}

func holdAll(cols []api.Vec) []api.Vec {
	out := make([]api.Vec, len(cols))
	for k, col := range cols {
		out[k] = hold(col)
	}
	return roomy(out, vec("78:8"))
}

// untouched tells whether what x has, and the room behind it, is still as hold made it.
func untouched(x, was api.Vec) bool {
	if !alike(x, was) || !alike(x[:len(x)+3][len(x):], vec("77:7 77:7 77:7")) {
		return false
	}
	kept := func(list []uint64) bool { return slices.Equal(list[:len(list)+3][len(list):], []uint64{7, 7, 7}) }
	for _, term := range x {
		if !kept(term.X.Num.Abs) || !kept(term.X.Den.Abs) {
			return false
		}
	}
	return true
}

func allUntouched(cols, was []api.Vec) bool {
	for _, col := range cols[:len(cols)+3][len(cols):] {
		if !alike(col, vec("78:8")) {
			return false
		}
	}
	return slices.EqualFunc(cols, was, untouched)
}

// wipe writes over x, its digits and its spare room.
func wipe(x api.Vec) {
	for _, term := range x {
		clear(term.X.Num.Abs[:cap(term.X.Num.Abs)])
		clear(term.X.Den.Abs[:cap(term.X.Den.Abs)])
	}
	clear(x[:cap(x)])
}

// R3: what is handed in isn't changed, its spare room neither, even when what is told is written over.
func TestNothingChanged(t *testing.T) {
	each(t, func(was []api.Vec, r *rand.Rand) {
		wasSide := chance(r, len(was), 2)
		cols, b, c := holdAll(was), hold(wasSide), hold(wasSide)
		f, _ := lu.Factor(cols, len(cols))
		x, _ := f.Ftran(b)
		y, _ := f.Btran(c)
		wipe(x)
		wipe(y)
		if !allUntouched(cols, was) || !untouched(b, wasSide) || !untouched(c, wasSide) {
			t.Fatalf("of %v and %v: what was handed in has changed", was, wasSide)
		}
	})
}

// R3: nothing that is handed in is kept, nor what is told: an LU tells the same when all of it is written over.
func TestNothingKept(t *testing.T) {
	eachLU(t, func(cols []api.Vec, f *lu.LU, r *rand.Rand) {
		side := chance(r, len(cols), 2)
		wantX, wantY := ftran(t, f, hold(side)), btran(t, f, hold(side))
		given := holdAll(cols)
		g := factored(t, given)
		for _, col := range given {
			wipe(col)
		}
		clear(given[:cap(given)])
		for range 2 {
			b, c := hold(side), hold(side)
			x, y := ftran(t, g, b), btran(t, g, c)
			wipe(b)
			wipe(c)
			same(t, "x", x, wantX)
			same(t, "y", y, wantY)
			wipe(x)
			same(t, "y, x written over", y, wantY)
			wipe(y)
		}
	})
}

// P7.1: the lists of Order are new each time, and no two share anything.
func TestOrderApart(t *testing.T) {
	f := factored(t, picture("0 1 0/0 0 1/1 0 0"))
	rows, cols := f.Order()
	clear(rows[:cap(rows)])
	if !slices.Equal(cols, []int{0, 1, 2}) {
		t.Errorf("columns %v, when the rows are written over", cols)
	}
	clear(cols[:cap(cols)])
	rows, cols = f.Order()
	if !slices.Equal(rows, []int{2, 0, 1}) || !slices.Equal(cols, []int{0, 1, 2}) {
		t.Errorf("rows %v, columns %v, when those told first are written over", rows, cols)
	}
	same(t, "Ftran", ftran(t, f, vec("0:5 1:6 2:7")), vec("0:7 1:5 2:6"))
}

// R4: an LU's answers hang on its columns alone, not on other LUs, nor on what was asked of it ahead.
func TestApart(t *testing.T) {
	f, g := factored(t, picture("1 2/3 4")), factored(t, picture("0 1/1 0"))
	first := ftran(t, f, vec("0:1"))
	f.Ftran(vec("9:1"))
	f.Btran(vec("0:5 1:7"))
	same(t, "Ftran of the other", ftran(t, g, vec("0:1")), vec("1:1"))
	same(t, "Ftran again", ftran(t, f, vec("0:1")), first)
	same(t, "Ftran", first, vec("0:-2 1:3/2"))
}
