package ratio_test

import (
	"slices"
	"testing"

	"tripwire/api"
	"tripwire/ratio"
)

// calls are all calls that take two Rats or one, with the digits of what they tell.
func calls() map[string]func(a, b api.Rat) [][]uint64 {
	told := func(a api.Rat) [][]uint64 { return [][]uint64{a.Num.Abs, a.Den.Abs} }
	none := func(any) [][]uint64 { return nil }
	return map[string]func(a, b api.Rat) [][]uint64{
		"Make":    func(a, b api.Rat) [][]uint64 { return told(ratio.Make(a.Num, b.Num)) },
		"Norm":    func(a, _ api.Rat) [][]uint64 { return told(ratio.Norm(a)) },
		"Whole":   func(a, _ api.Rat) [][]uint64 { return told(ratio.Whole(a.Num)) },
		"Add":     func(a, b api.Rat) [][]uint64 { return told(ratio.Add(a, b)) },
		"Sub":     func(a, b api.Rat) [][]uint64 { return told(ratio.Sub(a, b)) },
		"Mul":     func(a, b api.Rat) [][]uint64 { return told(ratio.Mul(a, b)) },
		"Quo":     func(a, b api.Rat) [][]uint64 { return told(ratio.Quo(a, b)) },
		"Neg":     func(a, _ api.Rat) [][]uint64 { return told(ratio.Neg(a)) },
		"Abs":     func(a, _ api.Rat) [][]uint64 { return told(ratio.Abs(a)) },
		"Max":     func(a, b api.Rat) [][]uint64 { return told(ratio.Max(a, b)) },
		"Min":     func(a, b api.Rat) [][]uint64 { return told(ratio.Min(a, b)) },
		"Floor":   func(a, _ api.Rat) [][]uint64 { return [][]uint64{ratio.Floor(a).Abs} },
		"Ceil":    func(a, _ api.Rat) [][]uint64 { return [][]uint64{ratio.Ceil(a).Abs} },
		"Cmp":     func(a, b api.Rat) [][]uint64 { return none(ratio.Cmp(a, b)) },
		"Sign":    func(a, _ api.Rat) [][]uint64 { return none(ratio.Sign(a)) },
		"Same":    func(a, b api.Rat) [][]uint64 { return none(ratio.Same(a, b)) },
		"IsWhole": func(a, _ api.Rat) [][]uint64 { return none(ratio.IsWhole(a)) },
		"Text":    func(a, _ api.Rat) [][]uint64 { return none(ratio.Text(a)) },
		"Div": func(a, b api.Rat) [][]uint64 {
			quotient, _ := ratio.Div(a, b)
			return told(quotient)
		},
	}
}

// held is memory that is handed in: digits, and spare room in which something stands that is not to be touched.
type held struct {
	all, kept []uint64
}

// hold moves a's digits into memory with spare room.
func (h *held) hold(a *api.Int) {
	h.all = append(slices.Clone(a.Abs), 11, 12, 13)
	h.kept = slices.Clone(h.all)
	if a.Abs != nil {
		a.Abs = h.all[:len(a.Abs)]
	}
}

func (h *held) touched() bool {
	return !slices.Equal(h.all, h.kept)
}

func overwrite(digits []uint64, by uint64) {
	room := digits[:cap(digits)]
	for i := range room {
		room[i] = by
	}
}

// R3: what is handed in isn't changed, its spare room neither; what is told is memory of its own.
func TestMemory(t *testing.T) {
	var some []api.Rat
	for i, a := range append(fractions(), zeros()...) {
		if i%11 == 0 {
			some = append(some, forms(a)...)
		}
	}
	some = append(some, api.Rat{}, frac("5"), frac("-2"), frac("1/2"), frac("-3/2"))
	for name, call := range calls() {
		for _, a := range some {
			for _, b := range some {
				leavesMemory(t, name, call, a, b)
			}
		}
	}
}

func leavesMemory(t *testing.T, name string, call func(a, b api.Rat) [][]uint64, a, b api.Rat) {
	t.Helper()
	var in [4]held
	for i, part := range []*api.Int{&a.Num, &a.Den, &b.Num, &b.Den} {
		in[i].hold(part)
	}
	out := call(a, b)
	for i := range out {
		kept := slices.Clone(out[i])
		for j := range out {
			if j != i {
				overwrite(out[j], uint64(90+i)) // another digit each time, or a second write would not be seen
			}
		}
		if !slices.Equal(out[i], kept) {
			t.Fatalf("%s: what it tells shares memory", name)
		}
	}
	for _, digits := range out {
		overwrite(digits, 99)
	}
	for i := range in {
		if in[i].touched() {
			t.Fatalf("%s: what was handed in has changed: %v, was %v", name, in[i].all, in[i].kept)
		}
	}
}

// R3: what is told twice is told in new memory each time.
func TestToldAnew(t *testing.T) {
	tell := map[string]func() api.Rat{
		"Of":          func() api.Rat { return ratio.Of(-7, 3) },
		"Of, whole":   func() api.Rat { return ratio.Of(1, 1) },
		"Parse":       func() api.Rat { a, _ := ratio.Parse("-6/7"); return a },
		"Parse whole": func() api.Rat { a, _ := ratio.Parse("1"); return a },
	}
	for name, call := range tell {
		first, second := call(), call()
		want := api.Rat{
			Num: api.Int{Neg: second.Num.Neg, Abs: slices.Clone(second.Num.Abs)},
			Den: api.Int{Neg: second.Den.Neg, Abs: slices.Clone(second.Den.Abs)},
		}
		overwrite(first.Num.Abs, 98)
		overwrite(first.Den.Abs, 99)
		same(t, name, second, want)
		same(t, name, call(), want)
	}
}

// The same fraction handed in twice is no other case.
func TestSameFractionTwice(t *testing.T) {
	each(func(a api.Rat) {
		same(t, "Add", ratio.Add(a, a), ratio.Mul(a, frac("2")))
		same(t, "Sub", ratio.Sub(a, a), api.Rat{})
		if ratio.Sign(a) != 0 {
			same(t, "Quo", ratio.Quo(a, a), frac("1"))
		}
		if !ratio.Same(a, a) {
			t.Errorf("%v isn't the same as itself", a)
		}
	})
}
