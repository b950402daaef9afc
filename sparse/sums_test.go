package sparse_test

import (
	"testing"

	"tripwire/api"
	"tripwire/ratio"
	"tripwire/sparse"
)

// P5.2: Add.
func TestAdd(t *testing.T) {
	same(t, "Add", sparse.Add(vec("0: 1, 3: 2"), vec("3: -2, 4: 1")), vec("0: 1, 4: 1"))
	same(t, "of none", sparse.Add(nil, nil), nil)
	same(t, "at places below 0", sparse.Add(vec("-5: 1/2"), vec("2: 1, -5: 1/2")), vec("-5: 1, 2: 1"))
	pairs(func(x, y api.Vec) {
		same(t, "Add", sparse.Add(x, y), byPlace(x, y, ratio.Add))
	})
}

// P5.2: Axpy, with factors of all forms, 0 among them.
func TestAxpy(t *testing.T) {
	same(t, "Axpy", sparse.Axpy(vec("0: 1"), frac("-2"), vec("0: 1/2, 1: 1")), vec("1: -2"))
	same(t, "times 0", sparse.Axpy(vec("1: 1, 0: 1"), api.Rat{}, vec("0: 1/2, 7: 1")), vec("0: 1, 1: 1"))
	same(t, "to none", sparse.Axpy(nil, frac("2/3"), vec("5: 3/2, 1: 1/2")), vec("1: 1/3, 5: 1"))
	same(t, "of none", sparse.Axpy(vec("5: 3/2, 1: 0"), frac("2/3"), nil), vec("5: 3/2"))
	numbers := factors()
	turn := 0
	pairs(func(y, x api.Vec) {
		turn++
		a := numbers[turn%len(numbers)]
		want := byPlace(y, x, func(v, w api.Rat) api.Rat { return ratio.Add(v, ratio.Mul(a, w)) })
		same(t, "Axpy", sparse.Axpy(y, a, x), want)
	})
}

// P5.2: Scale.
func TestScale(t *testing.T) {
	same(t, "Scale", sparse.Scale(frac("-2/3"), vec("4: 3, 1: 1/2, 4: 3/2")), vec("1: -1/3, 4: -3"))
	same(t, "by 0", sparse.Scale(api.Rat{}, vec("4: 3, 1: 1/2")), nil)
	same(t, "of none", sparse.Scale(frac("5"), nil), nil)
	numbers := factors()
	each(func(x api.Vec) {
		for _, a := range numbers {
			want := byPlace(x, nil, func(v, _ api.Rat) api.Rat { return ratio.Mul(a, v) })
			same(t, "Scale", sparse.Scale(a, x), want)
		}
	})
}

// P5.2: Dot: at each place the sums are multiplied, not the terms in turn.
func TestDot(t *testing.T) {
	for _, c := range []struct{ x, y, want string }{
		{"0: 1, 2: 3", "2: 1/3, 5: 9", "1"}, {"", "", "0"}, {"0: 1", "", "0"}, {"0: 1", "1: 1", "0"}, {"0: 1, 1: 1", "0: 1, 1: -1", "0"},
		{"0: 1, 0: 2", "0: 3, 0: 4", "21"}, {"1: 1, 0: 1/2", "0: 1/3, 1: 1/6", "1/3"}, {"-1: 2, 9: 1", "9: 0, -1: 3", "6"}, {"3: 1, 3: -1", "3: 7", "0"},
	} {
		sameNumber(t, "Dot of "+c.x+" and "+c.y, sparse.Dot(vec(c.x), vec(c.y)), frac(c.want))
	}
	pairs(func(x, y api.Vec) {
		ys := table(y)
		var want api.Rat
		for at, v := range table(x) {
			want = ratio.Add(want, ratio.Mul(v, ys[at]))
		}
		sameNumber(t, "Dot", sparse.Dot(x, y), want)
	})
}
