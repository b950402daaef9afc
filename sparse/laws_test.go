package sparse_test

import (
	"math/rand"
	"testing"

	"tripwire/api"
	"tripwire/ratio"
	"tripwire/sparse"
)

// threes hands f many triples of Vecs, with two numbers each.
func threes(f func(x, y, z api.Vec, a, b api.Rat)) {
	r := rand.New(rand.NewSource(7))
	numbers := factors()
	number := func() api.Rat { return numbers[r.Intn(len(numbers))] }
	for range 1500 {
		f(chance(r), chance(r), chance(r), number(), number())
	}
}

// P5.4: Vecs are a vector space.
func TestVectorSpace(t *testing.T) {
	threes(func(x, y, z api.Vec, a, b api.Rat) {
		same(t, "order of a sum", sparse.Add(x, y), sparse.Add(y, x))
		same(t, "grouping of a sum", sparse.Add(sparse.Add(x, y), z), sparse.Add(x, sparse.Add(y, z)))
		same(t, "nothing added", sparse.Add(x, nil), sparse.Norm(x))
		same(t, "x + (-x)", sparse.Add(x, sparse.Scale(frac("-1"), x)), nil)
		same(t, "times 1", sparse.Scale(frac("1"), x), sparse.Norm(x))
		same(t, "times 0", sparse.Scale(api.Rat{}, x), nil)
		same(t, "grouping of a multiple", sparse.Scale(a, sparse.Scale(b, x)), sparse.Scale(ratio.Mul(a, b), x))
		same(t, "a multiple through a sum", sparse.Scale(a, sparse.Add(x, y)), sparse.Add(sparse.Scale(a, x), sparse.Scale(a, y)))
		same(t, "a sum of multiples", sparse.Scale(ratio.Add(a, b), x), sparse.Add(sparse.Scale(a, x), sparse.Scale(b, x)))
		same(t, "Axpy", sparse.Axpy(y, a, x), sparse.Add(y, sparse.Scale(a, x)))
	})
}

// P5.4: Dot goes through sums and multiples, and is the same both ways.
func TestDotLaws(t *testing.T) {
	threes(func(x, y, z api.Vec, a, _ api.Rat) {
		sameNumber(t, "both ways", sparse.Dot(x, y), sparse.Dot(y, x))
		sameNumber(t, "through a sum", sparse.Dot(sparse.Add(x, y), z), ratio.Add(sparse.Dot(x, z), sparse.Dot(y, z)))
		sameNumber(t, "through a multiple", sparse.Dot(sparse.Scale(a, x), y), ratio.Mul(a, sparse.Dot(x, y)))
		if squares := sparse.Dot(x, x); ratio.Sign(squares) < 0 || (ratio.Sign(squares) == 0) != sparse.Same(x, nil) {
			t.Errorf("Dot of %v with itself: %v", x, squares)
		}
	})
}

// P5.4: Of and Dense undo each other.
func TestOfAndDense(t *testing.T) {
	for n := range 2 * len(factors()) {
		l := append(factors(), tidy()...)[:min(n, len(factors())+len(tidy()))]
		back := sparse.Dense(sparse.Of(l), len(l))
		if len(back) != len(l) {
			t.Fatalf("%d numbers of %d", len(back), len(l))
		}
		for i, v := range back {
			sameNumber(t, "Dense of Of", v, ratio.Norm(l[i]))
		}
	}
	each(func(x api.Vec) {
		var inside api.Vec
		for _, term := range sparse.Norm(x) {
			if term.At >= 0 && term.At < 8 {
				inside = append(inside, term)
			}
		}
		same(t, "Of Dense", sparse.Of(sparse.Dense(x, 8)), inside)
	})
}

// P5.1: Get, Put, Same and Norm fit one another.
func TestGetAndPut(t *testing.T) {
	threes(func(x, y, _ api.Vec, a, b api.Rat) {
		for _, at := range places() {
			put := sparse.Put(x, at, a)
			sameNumber(t, "Get of Put", sparse.Get(put, at), ratio.Norm(a))
			sameNumber(t, "Get beside Put", sparse.Get(put, at^1), sparse.Get(x, at^1))
			same(t, "Put of Put", sparse.Put(put, at, b), sparse.Put(x, at, b))
			same(t, "Put of Get", sparse.Put(x, at, sparse.Get(x, at)), sparse.Norm(x))
		}
		if got := sparse.Same(x, y); got != alike(sparse.Norm(x), sparse.Norm(y)) {
			t.Errorf("Same of %v and %v: %v", x, y, got)
		}
	})
}
