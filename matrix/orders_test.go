package matrix_test

import (
	"math"
	"math/rand"
	"slices"
	"testing"

	"tripwire/api"
	"tripwire/matrix"
)

// P6.2: Perm: each number from 0 on, once.
func TestPerm(t *testing.T) {
	for _, c := range []struct {
		p    []int
		want bool
	}{
		{nil, true}, {[]int{}, true}, {[]int{0}, true}, {[]int{1}, false}, {[]int{-1}, false}, {[]int{0, 0}, false}, {[]int{2, 0, 1}, true}, {[]int{1, 2, 3}, false},
		{[]int{0, 1, 1}, false}, {[]int{0, 2}, false}, {[]int{0, math.MaxInt}, false}, {[]int{math.MinInt, 0}, false}, {[]int{1, 0, -1}, false},
	} {
		if got := matrix.Perm(c.p); got != c.want {
			t.Errorf("Perm(%v): %v", c.p, got)
		}
	}
	orders(func(p []int) {
		if got := matrix.Perm(p); got != isOrder(p) {
			t.Errorf("Perm(%v): %v", p, got)
		}
	})
	long := rand.New(rand.NewSource(12)).Perm(1 << 17)
	if !matrix.Perm(long) {
		t.Error("Perm of a long order")
	}
	if long[77] = long[78]; matrix.Perm(long) {
		t.Error("Perm of a long list that has one number twice")
	}
}

// P6.2: Inverse has at p(i) i, and refuses what is no order.
func TestInverse(t *testing.T) {
	if got, err := matrix.Inverse([]int{2, 0, 1}); err != api.OK || !slices.Equal(got, []int{1, 2, 0}) {
		t.Errorf("Inverse(2 0 1): %v, error %d", got, err)
	}
	orders(func(p []int) {
		got, err := matrix.Inverse(p)
		if !isOrder(p) {
			refused(t, "Inverse", got, err, api.ErrArg)
			return
		}
		if err != api.OK || len(got) != len(p) {
			t.Fatalf("Inverse(%v): %v, error %d", p, got, err)
		}
		for i, at := range p {
			if got[at] != i {
				t.Errorf("Inverse(%v): %v", p, got)
			}
		}
	})
}

// P6.2: Move puts what is at i at p(i); x is told in its one form, whatever its own.
func TestMove(t *testing.T) {
	for _, c := range []struct {
		p       []int
		x, want string
	}{
		{[]int{2, 0, 1}, "0:5", "2:5"}, {[]int{2, 0, 1}, "0:5 1:6 2:7", "0:6 1:7 2:5"}, {[]int{2, 0, 1}, "", ""}, {nil, "", ""}, {[]int{0}, "0:1/2", "0:1/2"},
		{[]int{1, 0}, "1:1 0:1 1:1", "0:2 1:1"}, {[]int{1, 0}, "1:1 1:-1", ""}, {[]int{0, 1}, "1:3 0:2", "0:2 1:3"},
		{[]int{1, 0}, "0:1 2:0 -1:0", "1:1"}, {[]int{1, 0}, "2:1 0:1 2:-1", "1:1"}, {nil, "0:1 0:-1 -7:0", ""},
	} {
		got, err := matrix.Move(c.p, vec(c.x))
		if err != api.OK {
			t.Errorf("Move(%v; %s): error %d", c.p, c.x, err)
		}
		same(t, "Move of "+c.x, got, vec(c.want))
	}
}

// P6.2, Errors: Move refuses what is no order, and what has something at a place that the order has not.
func TestMoveRefuses(t *testing.T) {
	for _, c := range []struct {
		p []int
		x string
	}{
		{[]int{0, 0}, ""}, {[]int{1}, ""}, {[]int{0, 0}, "0:1"}, {[]int{-1, 0}, "0:1"}, {[]int{0, 2}, "5:1"}, {[]int{math.MaxInt}, "0:1"},
		{nil, "0:1"}, {[]int{0}, "1:1"}, {[]int{1, 0}, "-1:1"}, {[]int{1, 0}, "0:1 2:1"}, {[]int{1, 0}, "-1:1 0:1 1:1"}, {[]int{1, 0}, "2:1 0:1 2:1"},
		{[]int{1, 0}, "9223372036854775807:1"}, {[]int{1, 0}, "-9223372036854775808:1 0:1"},
	} {
		got, err := matrix.Move(c.p, vec(c.x))
		refused(t, "Move of "+c.x, got, err, api.ErrArg)
	}
}

// P6.2: Move of any list and any Vec.
func TestMoveOfAny(t *testing.T) {
	r := rand.New(rand.NewSource(13))
	orders(func(p []int) {
		for range 3 {
			x := odd(r)
			if r.Intn(2) == 0 {
				x = right(r, len(p))
			}
			want, fits := table{}, isOrder(p)
			for _, term := range tableOf(x).vec() {
				fits = fits && term.At >= 0 && term.At < len(p)
				if fits {
					want[p[term.At]] = term.X
				}
			}
			got, err := matrix.Move(p, x)
			if !fits {
				refused(t, "Move", got, err, api.ErrArg)
				continue
			}
			if err != api.OK {
				t.Errorf("Move(%v; %v): error %d", p, x, err)
			}
			same(t, "Move", got, want.vec())
		}
	})
}
