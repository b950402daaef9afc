package sparse_test

import (
	"slices"
	"strconv"
	"strings"
	"testing"

	"tripwire/api"
	"tripwire/ratio"
	"tripwire/sparse"
)

// call is one that takes two Vecs and a number, or fewer, with the Vec and the numbers that it tells.
type call func(x, y api.Vec, a api.Rat) (api.Vec, []api.Rat)

func calls() map[string]call {
	numbers := func(x api.Vec) []api.Rat {
		out := make([]api.Rat, len(x))
		for i, term := range x {
			out[i] = term.X
		}
		return out
	}
	return map[string]call{
		"Norm":  func(x, _ api.Vec, _ api.Rat) (api.Vec, []api.Rat) { return sparse.Norm(x), nil },
		"Put":   func(x, _ api.Vec, a api.Rat) (api.Vec, []api.Rat) { return sparse.Put(x, 1, a), nil },
		"Add":   func(x, y api.Vec, _ api.Rat) (api.Vec, []api.Rat) { return sparse.Add(x, y), nil },
		"Axpy":  func(x, y api.Vec, a api.Rat) (api.Vec, []api.Rat) { return sparse.Axpy(y, a, x), nil },
		"Scale": func(x, _ api.Vec, a api.Rat) (api.Vec, []api.Rat) { return sparse.Scale(a, x), nil },
		"Of":    func(x, _ api.Vec, _ api.Rat) (api.Vec, []api.Rat) { return sparse.Of(numbers(x)), nil },
		"Get":   func(x, _ api.Vec, _ api.Rat) (api.Vec, []api.Rat) { return nil, []api.Rat{sparse.Get(x, 1)} },
		"Dot":   func(x, y api.Vec, _ api.Rat) (api.Vec, []api.Rat) { return nil, []api.Rat{sparse.Dot(x, y)} },
		"Dense": func(x, _ api.Vec, _ api.Rat) (api.Vec, []api.Rat) { return nil, sparse.Dense(x, 4) },
		"Right": func(x, _ api.Vec, _ api.Rat) (api.Vec, []api.Rat) { sparse.Right(x, 4); return nil, nil },
		"Same":  func(x, y api.Vec, _ api.Rat) (api.Vec, []api.Rat) { sparse.Same(x, y); return nil, nil },
	}
}

// held is memory that is handed in, with what stood in it.
type held struct {
	terms, keptTerms   []api.Term
	digits, keptDigits [][]uint64
}

// holdList moves digits into memory with spare room, in which something stands that is not to be touched.
func (h *held) holdList(list []uint64) []uint64 {
	if list == nil {
		return nil
	}
	all := append(slices.Clone(list), 11, 12, 13)
	h.digits, h.keptDigits = append(h.digits, all), append(h.keptDigits, slices.Clone(all))
	return all[:len(list)]
}

func (h *held) holdNumber(a api.Rat) api.Rat {
	a.Num.Abs, a.Den.Abs = h.holdList(a.Num.Abs), h.holdList(a.Den.Abs)
	return a
}

// holdVec moves x's terms and their digits likewise.
func (h *held) holdVec(x api.Vec) api.Vec {
	all := make([]api.Term, 0, len(x)+2)
	for _, term := range x {
		all = append(all, api.Term{At: term.At, X: h.holdNumber(term.X)})
	}
	all = append(all, api.Term{At: 77, X: frac("7")}, api.Term{At: -78, X: frac("8")})
	h.terms, h.keptTerms = all, slices.Clone(all)
	return api.Vec(all[:len(x)])
}

// touched tells whether anything is not as it was: terms, the lists they have, or digits.
func (h *held) touched() bool {
	for i, term := range h.terms {
		kept := h.keptTerms[i]
		if term.At != kept.At || !equal(term.X, kept.X) || !sameList(term.X.Num.Abs, kept.X.Num.Abs) || !sameList(term.X.Den.Abs, kept.X.Den.Abs) {
			return true
		}
	}
	return !slices.EqualFunc(h.digits, h.keptDigits, slices.Equal)
}

func sameList(a, b []uint64) bool {
	return len(a) == len(b) && (len(a) == 0 || &a[0] == &b[0])
}

// lists are all lists of digits in what was told.
func lists(x api.Vec, l []api.Rat) [][]uint64 {
	var out [][]uint64
	for _, term := range x {
		out = append(out, term.X.Num.Abs, term.X.Den.Abs)
	}
	for _, v := range l {
		out = append(out, v.Num.Abs, v.Den.Abs)
	}
	return out
}

func overwrite(digits []uint64, by uint64) {
	room := digits[:cap(digits)]
	for i := range room {
		room[i] = by
	}
}

// R3: what is handed in isn't changed, its spare room neither; what is told is memory of its own, digits and all.
func TestMemory(t *testing.T) {
	some := append(edges(), vec("0: 1/2, 1: 18446744073709551616/7, 2: -3, 3: 5/6"), vec("3: 5/6, 1: -1/3, 1: 4, 0: 1, 2: 7/2"))
	for name, do := range calls() {
		for _, x := range some {
			for _, y := range some {
				leavesMemory(t, name, do, x, y, frac("-2/3"))
			}
			for _, a := range factors() {
				leavesMemory(t, name, do, x, x, a)
			}
		}
	}
}

func leavesMemory(t *testing.T, name string, do call, x, y api.Vec, a api.Rat) {
	t.Helper()
	var first, second, number held
	x, y, a = first.holdVec(x), second.holdVec(y), number.holdNumber(a)
	out, told := do(x, y, a)
	all := lists(out, told)
	for i := range all {
		kept := slices.Clone(all[i])
		for j := range all {
			if j != i {
				overwrite(all[j], uint64(90+i)) // another digit each time, or a second write would not be seen
			}
		}
		if !slices.Equal(all[i], kept) {
			t.Fatalf("%s: what it tells shares digits", name)
		}
	}
	for _, digits := range all {
		overwrite(digits, 99)
	}
	clear(out[:cap(out)])
	clear(told[:cap(told)])
	if first.touched() || second.touched() || number.touched() {
		t.Fatalf("%s of %v, %v and %v: what was handed in has changed", name, x, y, a)
	}
}

// R3: what is handed in isn't kept: what is told stays as it is when the former is written over.
func TestNothingKept(t *testing.T) {
	for name, do := range calls() {
		var first, second, number held
		x := first.holdVec(vec("0: 1/2, 1: 18446744073709551616/7, 2: -3, 3: 5/6"))
		y := second.holdVec(vec("-1: 1/3, 1: 4, 2: 7/2, 5: 9"))
		a := number.holdNumber(frac("-2/3"))
		out, told := do(x, y, a)
		want := written(out, told)
		for _, h := range []held{first, second, number} {
			for _, digits := range h.digits {
				overwrite(digits, 99)
			}
			clear(h.terms)
		}
		if got := written(out, told); got != want {
			t.Errorf("%s: what it told has changed: %s, was %s", name, got, want)
		}
	}
}

// written is what was told, as a text.
func written(x api.Vec, l []api.Rat) string {
	var out strings.Builder
	for _, term := range x {
		out.WriteString(strconv.Itoa(term.At) + ": " + ratio.Text(term.X) + ", ")
	}
	for _, v := range l {
		out.WriteString(ratio.Text(v) + ", ")
	}
	return out.String()
}
