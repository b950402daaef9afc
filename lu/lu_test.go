package lu_test

import (
	"math"
	"slices"
	"testing"

	"tripwire/api"
	"tripwire/lu"
	"tripwire/ratio"
)

// Chapter 7, Examples.
func TestExamples(t *testing.T) {
	f := factored(t, columns("0:2", "0:1 1:1"))
	rows, cols := f.Order()
	if !slices.Equal(rows, []int{0, 1}) || !slices.Equal(cols, []int{0, 1}) {
		t.Errorf("Order: rows %v, columns %v", rows, cols)
	}
	same(t, "Ftran", ftran(t, f, vec("0:3 1:1")), vec("0:1 1:1"))
	same(t, "Btran", btran(t, f, vec("0:2 1:2")), vec("0:1 1:1"))
	if f, err := lu.Factor(columns("0:1", "0:2"), 2); f != nil || err != api.ErrSingular {
		t.Errorf("Factor of multiples: %v, error %d", f, err)
	}
	if f, err := lu.Factor(columns("0:1", "0:2"), 1); f != nil || err != api.ErrArg {
		t.Errorf("Factor of two columns with one row: %v, error %d", f, err)
	}
	same(t, "Ftran of none", ftran(t, factored(t, nil), nil), nil)
}

// P7.1: how many columns there may be: none is enough, n must be their number, 256 at most.
func TestFactorNumber(t *testing.T) {
	for _, c := range []struct {
		cols []api.Vec
		n    int
		want api.Errno
	}{
		{nil, 0, api.OK}, {[]api.Vec{}, 0, api.OK}, {units(1), 1, api.OK}, {units(255), 255, api.OK}, {units(256), 256, api.OK},
		{units(257), 257, api.ErrArg}, {units(1000), 1000, api.ErrArg}, {units(3), 2, api.ErrArg}, {units(3), 4, api.ErrArg}, {units(1), 0, api.ErrArg},
		{nil, 1, api.ErrArg}, {nil, -1, api.ErrArg}, {units(1), -1, api.ErrArg}, {nil, math.MinInt, api.ErrArg}, {nil, math.MaxInt, api.ErrArg}, {units(2), math.MaxInt, api.ErrArg},
	} {
		f, err := lu.Factor(c.cols, c.n)
		if err != c.want || (f == nil) != (err != api.OK) {
			t.Errorf("Factor of %d columns, %d rows: error %d, want %d", len(c.cols), c.n, err, c.want)
		}
		if size := f.Size(); err == api.OK && size != c.n || err != api.OK && size != 0 {
			t.Errorf("Factor of %d columns, %d rows: Size %d", len(c.cols), c.n, size)
		}
	}
}

// P7.1: each column must be right: one that isn't is refused, wherever it stands, ahead of what the columns span.
func TestFactorRight(t *testing.T) {
	number := func(neg bool, abs ...uint64) api.Int { return api.Int{Neg: neg, Abs: abs} }
	wrong := columns("-1:1", "3:1", "9223372036854775807:1", "-9223372036854775808:1", "0:0", "1:1 0:1", "1:1 1:1", "0:1 1:1 3:1", "0:1 2:0")
	for _, x := range []api.Rat{
		{Num: number(false, 3), Den: number(false, 6)}, {Num: number(false, 1), Den: number(true, 2)}, {Num: number(false, 5, 0)},
		{Num: number(false, 5), Den: number(false, 1)}, {Num: number(false, 5), Den: number(true)}, {Num: number(false, 5), Den: number(false, 0)}, {Num: number(true)},
	} {
		wrong = append(wrong, api.Vec{{At: 1, X: x}})
	}
	for _, col := range wrong {
		for k := range 3 {
			for _, cols := range [][]api.Vec{units(3), columns("", "0:1", "0:1")} { // the latter have no LU, with right columns
				cols[k] = col
				if f, err := lu.Factor(cols, 3); f != nil || err != api.ErrArg {
					t.Errorf("Factor(%v): error %d", cols, err)
				}
			}
		}
	}
}

// P7.1: columns that don't span have no LU, whether that is seen at once or only behind some pivots.
func TestFactorSingular(t *testing.T) {
	for _, text := range []string{
		"0", "0 0/0 0", "1 0/0 0", "0 1/0 1", "1 1/0 0", "1 2/2 4", "1 2 3/4 5 6/7 8 9", "1 1 0/0 1 1/-1 0 1", "1 0 1/0 1 1/1 1 2",
		"2 1 1 0/1 1 0 1/3 2 1 1/0 5 0 0", "1 0 0 0/0 1 0 0/0 0 1 2/0 0 2 4", "0 0 1/0 0 2/1 1 1",
	} {
		cols := picture(text)
		if f, err := lu.Factor(cols, len(cols)); f != nil || err != api.ErrSingular {
			t.Errorf("Factor(%s): error %d", text, err)
		}
	}
	cols := units(256)
	cols[200] = vec("3:1/2 7:-5 255:9")
	if f, err := lu.Factor(cols, 256); f != nil || err != api.ErrSingular {
		t.Errorf("Factor of 256 columns that don't span: error %d", err)
	}
}

// P7.2: by hand, with numbers of all kinds.
func TestSolved(t *testing.T) {
	for _, c := range []struct {
		cols       []api.Vec
		b, x, c, y string
	}{
		{units(3), "0:1 2:-1/2", "0:1 2:-1/2", "1:7", "1:7"},
		{columns("0:-3"), "0:1", "0:-1/3", "0:6", "0:-2"},
		{columns("1:2", "0:3"), "0:3 1:4", "0:2 1:1", "0:4 1:3", "0:1 1:2"},
		{picture("1 2/3 4"), "0:1", "0:-2 1:3/2", "0:1", "0:-2 1:1"},
		{picture("0 1 0/0 0 1/1 0 0"), "0:5 1:6 2:7", "0:7 1:5 2:6", "0:5 1:6 2:7", "0:6 1:7 2:5"},
		{picture("1 1 1/1 2 4/1 3 9"), "0:6 1:17 2:34", "0:1 1:2 2:3", "0:3 1:6 2:14", "0:1 1:1 2:1"},
		{columns("0:1/3", "0:18446744073709551616 1:1/18446744073709551617"), "1:1", "0:-1020847100762815390445464054516433289216 1:18446744073709551617", "0:1", "0:3 1:-1020847100762815390445464054516433289216"},
	} {
		f := factored(t, c.cols)
		same(t, "Ftran of "+c.b, ftran(t, f, vec(c.b)), vec(c.x))
		same(t, "Btran of "+c.c, btran(t, f, vec(c.c)), vec(c.y))
		same(t, "Ftran of none", ftran(t, f, nil), nil)
		same(t, "Btran of none", btran(t, f, nil), nil)
	}
}

// P7.2: a side may stand in any form, and counts as what it says; what it has at no row, or of no column, is refused.
func TestSides(t *testing.T) {
	f := factored(t, columns("0:1", "1:1"))
	odd := append(vec("1:1 0:1 1:1 -1:0 2:5 0:-1 2:-5 9223372036854775807:0"), api.Term{At: -9, X: api.Rat{Num: vec("0:3")[0].X.Num, Den: api.Int{Abs: []uint64{0}}}})
	same(t, "Ftran", ftran(t, f, odd), vec("1:2"))
	same(t, "Btran", btran(t, f, odd), vec("1:2"))
	half := api.Vec{{At: 0, X: api.Rat{Num: ratio.Of(-3, 1).Num, Den: ratio.Of(-6, 1).Num}}}
	same(t, "Ftran", ftran(t, f, half), vec("0:1/2"))
	same(t, "Btran", btran(t, f, half), vec("0:1/2"))
	for _, text := range []string{"-1:1", "2:1", "0:1 2:1/2", "3:1 2:-1 3:-1", "0:1 1:1 -1:1/18446744073709551617", "9223372036854775807:1", "-9223372036854775808:1"} {
		x, err := f.Ftran(vec(text))
		refused(t, "Ftran of "+text, x, err, api.ErrArg)
		y, err := f.Btran(vec(text))
		refused(t, "Btran of "+text, y, err, api.ErrArg)
	}
	same(t, "Ftran behind errors", ftran(t, f, vec("0:1")), vec("0:1"))
}

// P7.1, P7.2: of no columns there is an LU, whose sides have no places.
func TestNoColumns(t *testing.T) {
	f := factored(t, nil)
	if rows, cols := f.Order(); len(rows) != 0 || len(cols) != 0 || f.Size() != 0 {
		t.Errorf("Order: rows %v, columns %v; Size %d", rows, cols, f.Size())
	}
	same(t, "Btran of none", btran(t, f, nil), nil)
	same(t, "Btran of 0", btran(t, f, vec("0:0 5:1 5:-1")), nil)
	x, err := f.Ftran(vec("0:1"))
	refused(t, "Ftran", x, err, api.ErrArg)
	y, err := f.Btran(vec("0:1"))
	refused(t, "Btran", y, err, api.ErrArg)
}

// R5: what Factor didn't make is no LU, whatever it is asked.
func TestNoLU(t *testing.T) {
	failed, _ := lu.Factor(columns("0:1", "0:2"), 2)
	for _, f := range []*lu.LU{nil, {}, new(lu.LU), failed} {
		if rows, cols := f.Order(); len(rows) != 0 || len(cols) != 0 || f.Size() != 0 {
			t.Errorf("Order: rows %v, columns %v; Size %d", rows, cols, f.Size())
		}
		for _, text := range []string{"", "0:0", "0:1", "-1:1"} { // ErrNil is ahead of ErrArg
			x, err := f.Ftran(vec(text))
			refused(t, "Ftran of "+text, x, err, api.ErrNil)
			y, err := f.Btran(vec(text))
			refused(t, "Btran of "+text, y, err, api.ErrNil)
		}
	}
}
