package matrix_test

import (
	"math/rand"
	"slices"
	"testing"

	"tripwire/api"
	"tripwire/matrix"
	"tripwire/ratio"
	"tripwire/sparse"
)

// P6.3: turned twice a right matrix is itself.
func TestTurnedTwice(t *testing.T) {
	r := rand.New(rand.NewSource(14))
	for range 500 {
		n := r.Intn(7)
		cols := few(r, func() api.Vec { return right(r, n) })
		once, err := matrix.Turn(cols, n)
		if err != api.OK || !matrix.Right(once, len(cols)) {
			t.Fatalf("Turn of %v: %v, error %d", cols, once, err)
		}
		twice, err := matrix.Turn(once, len(cols))
		if err != api.OK {
			t.Fatalf("Turn of %v: error %d", once, err)
		}
		sameColumns(t, "turned twice", twice, cols)
	}
}

// P6.3: Dot of y and Times(x) is Dot of Left(y) and x, whatever the forms of all of them.
func TestBothSides(t *testing.T) {
	r := rand.New(rand.NewSource(15))
	each(func(cols []api.Vec, x api.Vec) {
		y := odd(r)
		one, other := sparse.Dot(y, matrix.Times(cols, x)), sparse.Dot(matrix.Left(y, cols), x)
		if !ratio.Same(one, other) {
			t.Errorf("of %v, %v and %v: %v and %v", y, cols, x, one, other)
		}
	})
}

// P6.3: Times of a right matrix is Left of the turned one.
func TestTurnedSides(t *testing.T) {
	r := rand.New(rand.NewSource(16))
	for range 500 {
		n := r.Intn(7)
		cols := few(r, func() api.Vec { return right(r, n) })
		x := odd(r)
		turned, err := matrix.Turn(cols, n)
		if err != api.OK {
			t.Fatalf("Turn of %v: error %d", cols, err)
		}
		same(t, "Left of the turned one", matrix.Left(x, turned), matrix.Times(cols, x))
	}
}

// P6.3: Inverse of Inverse is the order, and Move by it undoes Move.
func TestUndone(t *testing.T) {
	r := rand.New(rand.NewSource(17))
	for n := range 60 {
		p := r.Perm(n)
		back, err := matrix.Inverse(p)
		if err != api.OK || !matrix.Perm(back) {
			t.Fatalf("Inverse(%v): %v, error %d", p, back, err)
		}
		if again, err := matrix.Inverse(back); err != api.OK || !slices.Equal(again, p) {
			t.Errorf("Inverse of Inverse(%v): %v, error %d", p, again, err)
		}
		x := right(r, n)
		there, err := matrix.Move(p, x)
		if err != api.OK {
			t.Fatalf("Move(%v; %v): error %d", p, x, err)
		}
		here, err := matrix.Move(back, there)
		if err != api.OK {
			t.Fatalf("Move(%v; %v): error %d", back, there, err)
		}
		same(t, "moved and moved back", here, x)
	}
}
