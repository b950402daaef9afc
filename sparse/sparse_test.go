package sparse_test

import (
	"math"
	"testing"

	"tripwire/api"
	"tripwire/ratio"
	"tripwire/sparse"
)

// P5.1: Norm sums what stands at one place, sorts, and leaves out what is 0.
func TestNorm(t *testing.T) {
	for text, want := range map[string]string{
		"":                        "",
		"0: 0":                    "",
		"2: 1, 0: 1/2, 2: -1":     "0: 1/2",
		"3: 1, 2: 1, 1: 1":        "1: 1, 2: 1, 3: 1",
		"0: 1/2, 0: 1/2":          "0: 1",
		"7: 1/2, -7: 1/3, 7: 1/6": "-7: 1/3, 7: 2/3",
		"1: 0, 1: 5, 1: 0":        "1: 5",
		"9223372036854775807: 1, -9223372036854775808: 2": "-9223372036854775808: 2, 9223372036854775807: 1",
	} {
		same(t, "Norm of "+text, sparse.Norm(vec(text)), vec(want))
	}
	each(func(x api.Vec) {
		once := sparse.Norm(x)
		same(t, "Norm", once, fromTable(table(x)))
		same(t, "Norm of Norm", sparse.Norm(once), once)
	})
}

// P5.1: Right, by places, order, and what stands there.
func TestRight(t *testing.T) {
	for _, c := range []struct {
		text string
		n    int
		want bool
	}{
		{"", 0, true}, {"", 5, true}, {"", -1, true}, {"", math.MinInt, true},
		{"0: 1", 1, true}, {"1: 1", 1, false}, {"0: 0", 1, false}, {"0: 1", 0, false}, {"0: 1", -1, false},
		{"-1: 1", 1, false}, {"-1: 1, 0: 1", 2, false}, {"0: 1, 2: 1", 3, true}, {"0: 1, 2: 1", 2, false}, {"0: 1, 1: -1/2, 2: 7/3", 3, true},
		{"1: 1, 0: 1", 2, false}, {"0: 1, 0: 1", 2, false}, {"0: 1, 1: 1, 1: 1", 2, false}, {"0: 1, 2: 1, 1: 1", 3, false}, {"0: 1, 1: 0", 2, false},
		{"9223372036854775806: 1", math.MaxInt, true}, {"9223372036854775807: 1", math.MaxInt, false}, {"-9223372036854775808: 1", math.MinInt, false},
	} {
		if got := sparse.Right(vec(c.text), c.n); got != c.want {
			t.Errorf("Right(%s; %d): %v", c.text, c.n, got)
		}
	}
	if !sparse.Right(api.Vec{}, -1) {
		t.Error("Right of an empty list")
	}
}

// P5.1: Right asks for numbers that stand in their one form, each of them.
func TestRightNumbers(t *testing.T) {
	for _, v := range odd() {
		for _, x := range []api.Vec{
			{{At: 0, X: v}},
			{{At: 0, X: v}, {At: 1, X: frac("1")}},
			{{At: 0, X: frac("1/2")}, {At: 1, X: v}},
		} {
			if sparse.Right(x, 2) {
				t.Errorf("Right of %v", x)
			}
		}
	}
	for _, v := range tidy()[1:] {
		lists := api.Rat{Num: v.Num, Den: api.Int{Neg: v.Den.Neg, Abs: append([]uint64{}, v.Den.Abs...)}} // an empty list is as none
		if !sparse.Right(api.Vec{{At: 0, X: v}, {At: 1, X: lists}}, 2) {
			t.Errorf("not Right: %v", v)
		}
	}
	each(func(x api.Vec) {
		for _, n := range []int{-1, 0, 1, 4, 7, math.MaxInt} {
			inside := true
			for _, term := range x {
				inside = inside && term.At >= 0 && term.At < n
			}
			if got, want := sparse.Right(x, n), inside && alike(x, fromTable(table(x))); got != want {
				t.Errorf("Right(%v, %d): %v", x, n, got)
			}
		}
	})
}

// P5.1: Get sums all that stands there, wherever in the list; 0, where nothing does.
func TestGet(t *testing.T) {
	sameNumber(t, "of three terms", sparse.Get(vec("4: 1/2, 0: 7, 4: 1/3, 5: 1, 4: 1/6"), 4), frac("1"))
	sameNumber(t, "of terms that come to 0", sparse.Get(vec("4: 1, 0: 7, 4: -1"), 4), api.Rat{})
	sameNumber(t, "of none", sparse.Get(vec("4: 1, 0: 7"), 1), api.Rat{})
	each(func(x api.Vec) {
		for _, at := range places() {
			sameNumber(t, "Get", sparse.Get(x, at), ratio.Norm(table(x)[at]))
		}
	})
}

// P5.1: Put takes the place of all that stood there, and of nothing else; 0 leaves nothing there.
func TestPut(t *testing.T) {
	for _, c := range []struct {
		text string
		at   int
		v    string
		want string
	}{
		{"", 3, "1/2", "3: 1/2"}, {"", 3, "0", ""}, {"0: 1, 2: 3", 1, "2", "0: 1, 1: 2, 2: 3"}, {"0: 1, 2: 3", 2, "-1/3", "0: 1, 2: -1/3"},
		{"0: 1, 2: 3", 0, "0", "2: 3"}, {"0: 1, 2: 3", -4, "1", "-4: 1, 0: 1, 2: 3"}, {"2: 1, 0: 1, 2: 5, 1: 1, 1: -1", 2, "9", "0: 1, 2: 9"}, {"2: 1, 2: 5", 2, "0", ""},
	} {
		same(t, "Put into "+c.text, sparse.Put(vec(c.text), c.at, frac(c.v)), vec(c.want))
	}
	numbers := factors()
	turn := 0
	each(func(x api.Vec) {
		for _, at := range places() {
			turn++
			v := numbers[turn%len(numbers)]
			want := table(x)
			want[at] = v
			same(t, "Put", sparse.Put(x, at, v), fromTable(want))
		}
	})
}

// P5.1: Same looks at what counts alone, and at every place.
func TestSame(t *testing.T) {
	for _, c := range []struct {
		x, y string
		want bool
	}{
		{"", "", true}, {"", "0: 0", true}, {"0: 1", "", false}, {"", "5: 1", false}, {"0: 1", "1: 1", false}, {"0: 1", "0: -1", false}, {"0: 1, 1: 2", "0: 1", false},
		{"0: 1", "0: 1, 1: 2", false}, {"0: 1, 1: 2", "0: 1, 1: 3", false}, {"1: 2, 0: 1", "0: 1, 1: 2", true}, {"0: 1/2, 0: 1/2", "0: 1", true},
		{"3: 1, 3: -1", "", true}, {"3: 1, 3: -1", "4: 5, 4: -5", true}, {"-1: 1", "-1: 1", true}, {"-1: 1", "1: 1", false}, {"0: 1, 9: 1", "0: 2, 9: 1", false},
	} {
		if got := sparse.Same(vec(c.x), vec(c.y)); got != c.want {
			t.Errorf("Same(%s; %s): %v", c.x, c.y, got)
		}
	}
	pairs(func(x, y api.Vec) {
		want := alike(fromTable(table(x)), fromTable(table(y)))
		if sparse.Same(x, y) != want || sparse.Same(y, x) != want {
			t.Errorf("Same of %v and %v: not %v", x, y, want)
		}
	})
	each(func(x api.Vec) {
		if !sparse.Same(x, x) || !sparse.Same(x, fromTable(table(x))) {
			t.Errorf("%v isn't the same as itself", x)
		}
	})
}

// P5.3: Of.
func TestOf(t *testing.T) {
	same(t, "Of none", sparse.Of(nil), nil)
	same(t, "Of no numbers", sparse.Of([]api.Rat{}), nil)
	same(t, "Of 0, 5, 0, -1/2, 0", sparse.Of([]api.Rat{{}, frac("5"), {}, frac("-1/2"), {}}), vec("1: 5, 3: -1/2"))
	numbers := factors()
	want := map[int]api.Rat{}
	for at, v := range numbers {
		want[at] = v
	}
	same(t, "Of numbers of all forms", sparse.Of(numbers), fromTable(want))
}

// P5.3: Dense, of all forms, and only of the places that are asked for.
func TestDense(t *testing.T) {
	for at, want := range []string{"0", "5", "0"} {
		sameNumber(t, "Dense of 1: 5", sparse.Dense(vec("1: 5"), 3)[at], frac(want))
	}
	each(func(x api.Vec) {
		numbers := table(x)
		for _, n := range []int{math.MinInt, -1, 0, 1, 2, 3, 8} {
			got := sparse.Dense(x, n)
			if len(got) != max(n, 0) {
				t.Fatalf("Dense(%v, %d): %d numbers", x, n, len(got))
			}
			for at, v := range got {
				sameNumber(t, "Dense", v, ratio.Norm(numbers[at]))
			}
		}
	})
}

// P5.3: above 2^16 Dense tells 2^16 numbers.
func TestDenseLimit(t *testing.T) {
	x := vec("65536: 3, 65535: 1/2, 0: -1, -1: 4, 65537: 1, 65535: 1/2, 9223372036854775807: 7")
	for _, c := range []struct{ n, want int }{{65535, 65535}, {65536, 65536}, {65537, 65536}, {1 << 40, 65536}, {math.MaxInt, 65536}} {
		got := sparse.Dense(x, c.n)
		if len(got) != c.want {
			t.Fatalf("Dense of %d: %d numbers", c.n, len(got))
		}
		for at, v := range got {
			switch at {
			case 0:
				sameNumber(t, "at 0", v, frac("-1"))
			case 65535:
				sameNumber(t, "at 65535", v, frac("1"))
			default:
				sameNumber(t, "elsewhere", v, api.Rat{})
			}
		}
	}
}
