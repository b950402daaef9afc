package lu_test

import (
	"cmp"
	"math/rand"
	"slices"
	"testing"

	"tripwire/api"
	"tripwire/lu"
	"tripwire/ratio"
	"tripwire/sparse"
)

// P7.1: the pivots by hand, each case for one of the chapter's words.
func TestOrderByHand(t *testing.T) {
	for _, c := range []struct {
		why, text  string
		rows, cols []int
	}{
		{"the least column of those the same", "0 1/1 0", []int{1, 0}, []int{0, 1}},
		{"the least row of those the same", "1 1/1 2", []int{0, 1}, []int{0, 1}},
		{"a row of one place, in the last column", "1 1 1/1 2 5/0 0 1", []int{2, 0, 1}, []int{2, 0, 1}},
		{"a column of one place, in the last row", "1 1 0/1 2 0/1 5 1", []int{2, 0, 1}, []int{2, 0, 1}},
		{"the column ahead of the row", "0 1 0/0 0 1/1 0 0", []int{2, 0, 1}, []int{0, 1, 2}},
		{"the product, not the sum: a row of one place in a full column", "0 0 0 0 1/1 1 0 0 1/1 2 0 0 1/0 0 1 1 1/0 0 1 2 1", []int{0, 1, 2, 3, 4}, []int{4, 0, 1, 2, 3}},
		{"the product, not the lesser count: 2 by 2 ahead of 2 by 4", "1 1 1 1 0/1 1 0 0 0/1 0 1 0 0/1 0 0 1 0/0 0 0 0 1", []int{4, 1, 2, 0, 3}, []int{4, 1, 0, 2, 3}},
		{"counts of open rows alone", "1 1 0 0/0 1 1 0/0 0 1 1/0 1 0 1", []int{0, 1, 2, 3}, []int{0, 1, 2, 3}},
		{"a place that comes to 0 counts no more", "1 1 1 0/1 1 2 1/1 2 1 1/1 0 1 2", []int{0, 2, 1, 3}, []int{1, 0, 2, 3}},
	} {
		rows, cols := factored(t, picture(c.text)).Order()
		if !slices.Equal(rows, c.rows) || !slices.Equal(cols, c.cols) {
			t.Errorf("%s: %s: rows %v, columns %v, want %v, %v", c.why, c.text, rows, cols, c.rows, c.cols)
		}
	}
}

// P7.1: the pivots are those of the chapter's words, and there is an LU as long as there is a next one.
func TestOrderAsSaid(t *testing.T) {
	singular := 0
	each(t, func(cols []api.Vec, _ *rand.Rand) {
		rows, places, all := pivots(cols)
		f, err := lu.Factor(cols, len(cols))
		if !all {
			singular++
			if f != nil || err != api.ErrSingular {
				t.Errorf("Factor(%v): error %d, but there is no next pivot", cols, err)
			}
			return
		}
		if err != api.OK || f.Size() != len(cols) {
			t.Fatalf("Factor(%v): error %d, Size %d", cols, err, f.Size())
		}
		if gotRows, gotCols := f.Order(); !slices.Equal(gotRows, rows) || !slices.Equal(gotCols, places) {
			t.Errorf("of %v: rows %v, columns %v, want %v, %v", cols, gotRows, gotCols, rows, places)
		}
	})
	if singular < 200 && !t.Failed() {
		t.Errorf("only %d of the matrices have no LU", singular)
	}
}

// full is a matrix with all its noughts, row by row.
type full [][]api.Rat

func fullOf(cols []api.Vec) full {
	out := make(full, len(cols))
	for i := range out {
		for _, col := range cols {
			out[i] = append(out[i], sparse.Get(col, i))
		}
	}
	return out
}

// takeOff takes row p off row i, as often as makes that 0 in the column.
func (m full) takeOff(p, i, col int) {
	times := ratio.Quo(m[i][col], m[p][col])
	for k := range m[i] {
		m[i][k] = ratio.Sub(m[i][k], ratio.Mul(times, m[p][k]))
	}
}

// pivots goes word by word by the chapter: the rows of the pivots, their columns, and whether there is one for each row.
func pivots(cols []api.Vec) ([]int, []int, bool) {
	m := fullOf(cols)
	var openRows, openCols, rows, places []int
	for i := range m {
		openRows, openCols = append(openRows, i), append(openCols, i)
	}
	for len(openRows) > 0 {
		p, k, some := m.nextPivot(openRows, openCols)
		if !some {
			return nil, nil, false
		}
		rows, places = append(rows, p), append(places, k)
		openRows = slices.DeleteFunc(openRows, func(i int) bool { return i == p })
		openCols = slices.DeleteFunc(openCols, func(i int) bool { return i == k })
		for _, i := range openRows {
			m.takeOff(p, i, k)
		}
	}
	return rows, places, true
}

func (m full) nextPivot(openRows, openCols []int) (int, int, bool) {
	filled := func(i, k int) bool { return ratio.Sign(m[i][k]) != 0 }
	var found [][3]int
	for _, i := range openRows {
		for _, k := range openCols {
			if !filled(i, k) {
				continue
			}
			r, c := 0, 0
			for _, other := range openCols {
				if filled(i, other) {
					r++
				}
			}
			for _, other := range openRows {
				if filled(other, k) {
					c++
				}
			}
			found = append(found, [3]int{(r - 1) * (c - 1), k, i})
		}
	}
	if len(found) == 0 {
		return 0, 0, false
	}
	least := slices.MinFunc(found, func(a, b [3]int) int {
		return cmp.Or(a[0]-b[0], a[1]-b[1], a[2]-b[2])
	})
	return least[2], least[1], true
}
