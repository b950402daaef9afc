package whole_test

import (
	"slices"
	"testing"

	"tripwire/api"
	"tripwire/whole"
)

// calls are all calls that take two Ints or one, with the Ints that they tell.
func calls() map[string]func(a, b api.Int) []api.Int {
	one := func(x api.Int) []api.Int { return []api.Int{x} }
	return map[string]func(a, b api.Int) []api.Int{
		"Norm": func(a, _ api.Int) []api.Int { return one(whole.Norm(a)) },
		"Neg":  func(a, _ api.Int) []api.Int { return one(whole.Neg(a)) },
		"Abs":  func(a, _ api.Int) []api.Int { return one(whole.Abs(a)) },
		"Sign": func(a, _ api.Int) []api.Int {
			whole.Sign(a)
			return nil
		},
		"Cmp": func(a, b api.Int) []api.Int {
			whole.Cmp(a, b)
			return nil
		},
		"Add": func(a, b api.Int) []api.Int { return one(whole.Add(a, b)) },
		"Sub": func(a, b api.Int) []api.Int { return one(whole.Sub(a, b)) },
		"Mul": func(a, b api.Int) []api.Int { return one(whole.Mul(a, b)) },
		"DivMod": func(a, b api.Int) []api.Int {
			q, r := whole.DivMod(a, b)
			return []api.Int{q, r}
		},
		"Gcd": func(a, b api.Int) []api.Int { return one(whole.Gcd(a, b)) },
		"Small": func(a, _ api.Int) []api.Int {
			whole.Small(a)
			return nil
		},
	}
}

// roomy is a with spare room, in which something stands that is not to be touched.
func roomy(a api.Int) api.Int {
	all := append(slices.Clone(a.Abs), 11, 12, 13)
	return api.Int{Neg: a.Neg, Abs: all[:len(a.Abs)]}
}

// whatStands is a copy of a's digits with its spare room.
func whatStands(a api.Int) []uint64 {
	return slices.Clone(a.Abs[:len(a.Abs)+3])
}

func overwrite(a api.Int, digit uint64) {
	room := a.Abs[:cap(a.Abs)]
	for i := range room {
		room[i] = digit
	}
}

// R3: what is handed in isn't changed, its spare room neither; what is handed out is memory of its own.
func TestMemory(t *testing.T) {
	for name, call := range calls() {
		pairs(func(x, y api.Int) {
			a, b := roomy(x), roomy(y)
			ofA, ofB := whatStands(a), whatStands(b)
			untouched := func(when string) {
				if !slices.Equal(whatStands(a), ofA) || !slices.Equal(whatStands(b), ofB) {
					t.Fatalf("%s %v %v: %s, what was handed in has changed", name, x, y, when)
				}
			}
			out := call(a, b)
			untouched("in the call")
			for i, told := range out {
				kept := api.Int{Neg: told.Neg, Abs: slices.Clone(told.Abs)}
				for j, other := range out {
					if j != i {
						overwrite(other, uint64(90+i)) // another digit each time, or a second write would not be seen
					}
				}
				same(t, name+": numbers of one answer share memory", told, kept)
			}
			for _, told := range out {
				overwrite(told, 99)
			}
			untouched("by a change of the answer")
		})
	}
}

// The same number handed in twice is no other case.
func TestSameNumberTwice(t *testing.T) {
	for _, x := range edges() {
		a := roomy(x)
		same(t, "Add", whole.Add(a, a), whole.Mul(x, whole.Of(2)))
		is(t, "Sub", whole.Sub(a, a), 0)
		same(t, "Mul", whole.Mul(a, a), fromBig(toBig(x).Mul(toBig(x), toBig(x))))
		same(t, "Gcd", whole.Gcd(a, a), whole.Abs(x))
		divides(t, a, a)
		if whole.Cmp(a, a) != 0 {
			t.Error("Cmp", x)
		}
	}
}
