package limbs_test

import (
	"slices"
	"testing"

	"tripwire/limbs"
)

// calls are all calls that take two lists or one, with the lists that they tell.
func calls() map[string]func(a, b []uint64) [][]uint64 {
	one := func(x []uint64) [][]uint64 { return [][]uint64{x} }
	return map[string]func(a, b []uint64) [][]uint64{
		"Trim": func(a, _ []uint64) [][]uint64 { return one(limbs.Trim(a)) },
		"Cmp": func(a, b []uint64) [][]uint64 {
			limbs.Cmp(a, b)
			return nil
		},
		"Add": func(a, b []uint64) [][]uint64 { return one(limbs.Add(a, b)) },
		"Sub": func(a, b []uint64) [][]uint64 { return one(limbs.Sub(a, b)) },
		"Mul": func(a, b []uint64) [][]uint64 { return one(limbs.Mul(a, b)) },
		"DivMod": func(a, b []uint64) [][]uint64 {
			q, r := limbs.DivMod(a, b)
			return [][]uint64{q, r}
		},
		"Shl 0":  func(a, _ []uint64) [][]uint64 { return one(limbs.Shl(a, 0)) },
		"Shl 64": func(a, _ []uint64) [][]uint64 { return one(limbs.Shl(a, 64)) },
		"Shr 0":  func(a, _ []uint64) [][]uint64 { return one(limbs.Shr(a, 0)) },
		"Shr 64": func(a, _ []uint64) [][]uint64 { return one(limbs.Shr(a, 64)) },
		"Bits": func(a, _ []uint64) [][]uint64 {
			limbs.Bits(a)
			return nil
		},
		"Gcd": func(a, b []uint64) [][]uint64 { return one(limbs.Gcd(a, b)) },
	}
}

// roomy is a with spare room, in which something stands that is not to be touched.
func roomy(a []uint64) []uint64 {
	all := append(slices.Clone(a), 11, 12, 13)
	return all[:len(a)]
}

func overwrite(a []uint64) {
	for i := range a[:cap(a)] {
		a[:cap(a)][i] = 99
	}
}

// R3: what is handed in isn't changed, its spare room neither; what is handed out is memory of its own.
func TestMemory(t *testing.T) {
	for name, call := range calls() {
		pairs(func(x, y []uint64) {
			a, b := roomy(x), roomy(y)
			untouched := func(when string) {
				if !slices.Equal(a[:cap(a)][:len(x)+3], append(slices.Clone(x), 11, 12, 13)) || !slices.Equal(b[:cap(b)][:len(y)+3], append(slices.Clone(y), 11, 12, 13)) {
					t.Fatalf("%s %d %d: %s, what was handed in has changed", name, x, y, when)
				}
			}
			out := call(a, b)
			untouched("in the call")
			for i, list := range out {
				kept := slices.Clone(list)
				for j, other := range out {
					if j != i {
						overwrite(other)
					}
				}
				same(t, name+": lists of one answer share memory", list, kept)
			}
			for _, list := range out {
				overwrite(list)
			}
			untouched("by a change of the answer")
		})
	}
}

// The same list handed in twice is no other case.
func TestSameListTwice(t *testing.T) {
	for _, x := range edges() {
		a := roomy(x)
		same(t, "Add", limbs.Add(a, a), limbs.Shl(x, 1))
		is(t, "Sub", limbs.Sub(a, a))
		same(t, "Mul", limbs.Mul(a, a), fromBig(toBig(x).Mul(toBig(x), toBig(x))))
		same(t, "Gcd", limbs.Gcd(a, a), limbs.Trim(x))
		q, r := limbs.DivMod(a, a)
		if limbs.Bits(x) > 0 {
			is(t, "quotient", q, 1)
		}
		is(t, "rest", r)
		if limbs.Cmp(a, a) != 0 {
			t.Error("Cmp", x)
		}
	}
}
