package lu_test

import (
	"math/rand"
	"slices"
	"testing"

	"tripwire/api"
	"tripwire/lu"
	"tripwire/matrix"
	"tripwire/ratio"
	"tripwire/sparse"
)

// P7.2: the columns times x are b; y times the columns is c.
func TestSolves(t *testing.T) {
	eachLU(t, func(cols []api.Vec, f *lu.LU, r *rand.Rand) {
		for range 3 {
			side := chance(r, len(cols), 1+r.Intn(3))
			same(t, "the columns times x", matrix.Times(cols, ftran(t, f, side)), side)
			same(t, "y times the columns", matrix.Left(btran(t, f, side), cols), side)
		}
	})
}

// P7.3: there is just one x, and one y: those that the sides were made of.
func TestJustOne(t *testing.T) {
	eachLU(t, func(cols []api.Vec, f *lu.LU, r *rand.Rand) {
		want := chance(r, len(cols), 1+r.Intn(3))
		same(t, "x", ftran(t, f, matrix.Times(cols, want)), want)
		same(t, "y", btran(t, f, matrix.Left(want, cols)), want)
	})
}

// P7.2: Dot of c and x is Dot of y and b, of which each is told without the other.
func TestBothSides(t *testing.T) {
	eachLU(t, func(cols []api.Vec, f *lu.LU, r *rand.Rand) {
		b, c := chance(r, len(cols), 2), chance(r, len(cols), 2)
		one, other := sparse.Dot(c, ftran(t, f, b)), sparse.Dot(btran(t, f, c), b)
		if !ratio.Same(one, other) {
			t.Errorf("of %v, %v and %v: %v and %v", cols, b, c, one, other)
		}
	})
}

// P7.3: if one column is a sum of multiples of others, there is no LU; with a bit more at one more place there is one again.
func TestSpan(t *testing.T) {
	eachLU(t, func(cols []api.Vec, f *lu.LU, r *rand.Rand) {
		if len(cols) == 0 {
			return
		}
		k, other := r.Intn(len(cols)), append([]api.Vec{}, cols...)
		factors := sparse.Put(chance(r, len(cols), 2), k, api.Rat{})
		other[k] = matrix.Times(cols, factors)
		if g, err := lu.Factor(other, len(other)); g != nil || err != api.ErrSingular {
			t.Errorf("Factor(%v): error %d, but column %d is one of multiples", other, err, k)
		}
		other[k] = sparse.Axpy(other[k], ratio.Of(-1, 97), cols[k])
		g := factored(t, other)
		same(t, "x", ftran(t, g, other[k]), unit(k))
	})
}

// P7.3: there is an LU just if the determinant, gone through by its rows, isn't 0.
func TestDeterminant(t *testing.T) {
	each(t, func(cols []api.Vec, _ *rand.Rand) {
		if len(cols) > 5 {
			return
		}
		_, err := lu.Factor(cols, len(cols))
		if want := ratio.Sign(determinant(fullOf(cols), 0, nil)) != 0; want != (err == api.OK) {
			t.Errorf("Factor(%v): error %d", cols, err)
		}
	})
}

// determinant tells that of the rows from i on, without the columns that are used.
func determinant(m full, i int, used []int) api.Rat {
	if i == len(m) {
		return ratio.Of(1, 1)
	}
	total, sign := api.Rat{}, ratio.Of(1, 1)
	for k := range m {
		if slices.Contains(used, k) {
			continue
		}
		if part := ratio.Mul(sign, m[i][k]); ratio.Sign(part) != 0 {
			total = ratio.Add(total, ratio.Mul(part, determinant(m, i+1, append(used[:len(used):len(used)], k))))
		}
		sign = ratio.Neg(sign)
	}
	return total
}

// Chapter 7, Limits: 256 rows, with places filled all about, solved from both sides.
func TestGreatest(t *testing.T) {
	r := rand.New(rand.NewSource(22))
	n := 256
	cols := make([]api.Vec, n)
	for k, at := range r.Perm(n) {
		cols[k] = sparse.Norm(append(unit(at), chance(r, n, 128)...))
		cols[k] = withOne(cols[k], at)
	}
	f := factored(t, cols)
	for range 2 {
		side := chance(r, n, 40)
		same(t, "the columns times x", matrix.Times(cols, ftran(t, f, side)), side)
		same(t, "y times the columns", matrix.Left(btran(t, f, side), cols), side)
	}
	x, err := f.Ftran(vec("256:1"))
	refused(t, "Ftran of place 256", x, err, api.ErrArg)
}
