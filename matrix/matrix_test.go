package matrix_test

import (
	"math"
	"testing"

	"tripwire/api"
	"tripwire/matrix"
	"tripwire/ratio"
	"tripwire/sparse"
)

// P6.1: Right asks for n from 0 on, and each column; whatever n, and whichever column.
func TestRight(t *testing.T) {
	for _, c := range []struct {
		cols []api.Vec
		n    int
		want bool
	}{
		{nil, 0, true}, {nil, 7, true}, {nil, math.MaxInt, true}, {nil, -1, false}, {nil, math.MinInt, false}, {[]api.Vec{}, 0, true},
		{columns("", ""), 0, true}, {columns(""), -1, false}, {columns("0:1"), 0, false}, {columns("0:1"), -1, false},
		{columns("0:1 1:2", "1:3"), 2, true}, {columns("0:1 1:2", "1:3"), 1, false}, {columns("0:1", "1:3"), 1, false}, {columns("1:3", "0:1"), 1, false},
		{columns("0:1", "", "0:-1/2"), 1, true}, {columns("0:1", "-1:1", "0:1"), 1, false}, {columns("0:1", "0:0"), 1, false},
		{columns("1:1 0:1", "0:1"), 2, false}, {columns("0:1", "0:1 0:1"), 2, false}, {columns("65536:1", "9223372036854775806:1"), math.MaxInt, true},
		{columns("9223372036854775807:1"), math.MaxInt, false}, {columns("0:1", "0:1", "0:1"), 1, true}, {columns("0:1"), 3, true},
	} {
		if got := matrix.Right(c.cols, c.n); got != c.want {
			t.Errorf("Right(%v, %d): %v", c.cols, c.n, got)
		}
	}
	for _, v := range numbers() {
		col := api.Vec{{At: 0, X: v}}
		if got, want := matrix.Right([]api.Vec{vec("0:1"), col}, 1), sparse.Right(col, 1); got != want {
			t.Errorf("Right of a column %v: %v", col, got)
		}
	}
	each(func(cols []api.Vec, _ api.Vec) {
		want := true
		for _, col := range cols {
			want = want && sparse.Right(col, 5)
		}
		if got := matrix.Right(cols, 5); got != want {
			t.Errorf("Right(%v, 5): %v", cols, got)
		}
	})
}

// P6.1: Times sums all columns, whatever their rows, each as often as x says; what x has elsewhere is of no column.
func TestTimes(t *testing.T) {
	for _, c := range []struct {
		cols    []api.Vec
		x, want string
	}{
		{columns("0:1 1:2", "1:3"), "0:1 1:1", "0:1 1:5"},
		{columns("0:1 1:2", "1:3"), "", ""}, {nil, "0:1 1:1", ""}, {columns("0:1 1:2", "1:3"), "2:1 -1:1", ""},
		{columns("0:1", "0:1"), "0:1/2 1:-1/2", ""}, {columns("0:1/2", "0:1/3", "0:1/6"), "0:1 1:1 2:1", "0:1"},
		{columns("-5:1 70000:2", "-5:1/2"), "1:2 0:3", "-5:4 70000:6"}, {columns("1:1 0:1 1:1", ""), "0:1 0:2 1:9", "0:3 1:6"},
		{columns("0:1", "3:1", "0:1"), "2:5 9223372036854775807:1 -9223372036854775808:1", "0:5"}, {columns("0:1", "1:1"), "1:1 1:-1 0:1", "0:1"},
	} {
		same(t, "Times of "+c.x, matrix.Times(c.cols, vec(c.x)), vec(c.want))
	}
	each(func(cols []api.Vec, x api.Vec) {
		want, factors := table{}, tableOf(x)
		for k, col := range cols {
			for _, term := range col {
				want.add(term.At, ratio.Mul(factors[k], term.X))
			}
		}
		same(t, "Times", matrix.Times(cols, x), want.vec())
	})
}

// P6.1: Left tells Dot of y and each column, whatever its rows.
func TestLeft(t *testing.T) {
	for _, c := range []struct {
		y    string
		cols []api.Vec
		want string
	}{
		{"1:1", columns("0:1 1:2", "1:3"), "0:2 1:3"}, {"", columns("0:1 1:2", "1:3"), ""}, {"1:1", nil, ""}, {"5:1", columns("0:1 1:2", "1:3"), ""},
		{"0:1 1:-1", columns("0:1 1:1", "1:3", "0:1/3 1:1/3"), "1:-3"}, {"-5:2 70000:1/2", columns("-5:1", "", "70000:3 -5:1"), "0:2 2:7/2"},
		{"1:1 0:1 1:1", columns("1:3 0:1 1:1"), "0:9"}, {"0:1 0:-1 1:1", columns("0:5", "1:5"), "1:5"}, {"0:1", columns("0:1 0:-1", "0:1"), "1:1"},
		{"9223372036854775807:1 -9223372036854775808:3", columns("-9223372036854775808:1/3", "9223372036854775807:-2"), "0:1 1:-2"},
	} {
		same(t, "Left of "+c.y, matrix.Left(vec(c.y), c.cols), vec(c.want))
	}
	each(func(cols []api.Vec, y api.Vec) {
		want := table{}
		for k, col := range cols {
			want[k] = sparse.Dot(y, col)
		}
		same(t, "Left", matrix.Left(y, cols), want.vec())
	})
}

// P6.2: Turn makes rows of columns; what stands in no row of n counts nothing.
func TestTurn(t *testing.T) {
	for _, c := range []struct {
		cols []api.Vec
		n    int
		want []api.Vec
	}{
		{columns("0:1 1:2", "1:3"), 2, columns("0:1", "0:2 1:3")}, {columns("0:1 1:2", "1:3"), 1, columns("0:1")}, {columns("0:1 1:2", "1:3"), 3, columns("0:1", "0:2 1:3", "")},
		{columns("0:1 1:2", "1:3"), 0, nil}, {nil, 0, nil}, {nil, 2, columns("", "")}, {columns("", "", ""), 2, columns("", "")},
		{columns("-1:1 0:1", "2:1 9223372036854775807:1 -9223372036854775808:1", "1:1/2"), 2, columns("0:1", "2:1/2")},
		{columns("1:1 0:2 1:1", "0:1 0:-1", "1:0 0:1/2 0:1/2"), 2, columns("0:2 2:1", "0:2")},
	} {
		got, err := matrix.Turn(c.cols, c.n)
		if err != api.OK {
			t.Errorf("Turn(%v, %d): error %d", c.cols, c.n, err)
		}
		sameColumns(t, "Turn", got, c.want)
	}
	each(func(cols []api.Vec, _ api.Vec) {
		for n := range 8 {
			var want []api.Vec
			for at := range n {
				row := table{}
				for k, col := range cols {
					row[k] = sparse.Get(col, at)
				}
				want = append(want, row.vec())
			}
			got, err := matrix.Turn(cols, n)
			if err != api.OK {
				t.Fatalf("Turn(%v, %d): error %d", cols, n, err)
			}
			sameColumns(t, "Turn", got, want)
		}
	})
}

// P6.2, Errors, Limits: Turn of n below 0, and above 2^16.
func TestTurnLimits(t *testing.T) {
	cols := columns("0:1 65535:2 65536:3", "65535:1/2")
	for _, n := range []int{-1, math.MinInt, 65537, 1 << 32, math.MaxInt} {
		got, err := matrix.Turn(cols, n)
		refused(t, "Turn", got, err, api.ErrArg)
		got, err = matrix.Turn(nil, n)
		refused(t, "Turn of none", got, err, api.ErrArg)
	}
	got, err := matrix.Turn(cols, 65536)
	if err != api.OK || len(got) != 65536 {
		t.Fatalf("Turn of 2^16: %d columns, error %d", len(got), err)
	}
	for i, col := range got {
		switch i {
		case 0:
			same(t, "the first", col, vec("0:1"))
		case 65535:
			same(t, "the last", col, vec("0:2 1:1/2"))
		default:
			same(t, "others", col, nil)
		}
	}
}

// P6.1, P6.2: as many columns and rows as there may be, with little in each: the time grows with what stands there, not with its square.
func TestMany(t *testing.T) {
	const most = 1 << 16
	cols, all := make([]api.Vec, most), make(api.Vec, most)
	for k := range cols {
		cols[k] = api.Vec{{At: most - 1 - k, X: ratio.Of(int64(k+1), 1)}}
		all[k] = api.Term{At: k, X: ratio.Of(1, int64(k+1))}
	}
	for at, term := range matrix.Times(cols, all) {
		if term.At != at || ratio.Text(term.X) != "1" {
			t.Fatalf("Times: %v at %d", term, at)
		}
	}
	left := matrix.Left(all, cols)
	if len(left) != most {
		t.Fatalf("Left: %d terms", len(left))
	}
	for k, term := range left {
		if term.At != k || !ratio.Same(term.X, ratio.Of(int64(k+1), int64(most-k))) {
			t.Fatalf("Left: %v at %d", term, k)
		}
	}
	turned, err := matrix.Turn(cols, most)
	if err != api.OK || len(turned) != most {
		t.Fatalf("Turn: %d columns, error %d", len(turned), err)
	}
	for i, col := range turned {
		same(t, "Turn", col, api.Vec{{At: most - 1 - i, X: ratio.Of(int64(most-i), 1)}})
	}
}
