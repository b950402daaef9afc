package sparse

import (
	"cmp"
	"slices"

	"tripwire/api"
	"tripwire/ratio"
)

// joined tells the Vec that has at each place what do makes of what x and y have there, in its one form; of 0 and 0 it must make 0.
func joined(x, y []api.Term, do func(v, w api.Rat) api.Rat) api.Vec {
	out := make(api.Vec, 0, max(len(x), len(y))) // room is most of what short numbers cost here; more is hardly ever needed
	put := behind(&out)
	walk(x, y, func(at int, v, w api.Rat) bool {
		put(at, do(v, w))
		return true
	})
	return out
}

// behind is a closure that puts a number behind the terms of out, unless it is 0.
func behind(out *api.Vec) func(at int, v api.Rat) {
	return func(at int, v api.Rat) {
		if ratio.Sign(v) != 0 {
			*out = append(*out, api.Term{At: at, X: v})
		}
	}
}

// walk goes through the places of x's and y's terms, by rising places, each once, and hands visit what x and y have there, till it tells false.
// These may be numbers of x and y themselves, in any form: they are only to be read.
func walk(x, y []api.Term, visit func(at int, v, w api.Rat) bool) {
	x, y = ordered(x), ordered(y)
	for going := true; going && len(x)+len(y) > 0; {
		at := firstPlace(x, y)
		n, m := howMany(x, at), howMany(y, at)
		going = visit(at, sum(x[:n]), sum(y[:m]))
		x, y = x[n:], y[m:]
	}
}

// ordered tells x's terms by rising places: x itself, if it has them so already, as nearly every list has that comes here.
func ordered(x []api.Term) []api.Term {
	byPlace := func(a, b api.Term) int { return cmp.Compare(a.At, b.At) }
	if slices.IsSortedFunc(x, byPlace) {
		return x
	}
	out := slices.Clone(x)
	slices.SortFunc(out, byPlace)
	return out
}

// firstPlace tells the least place of x's and y's terms, of which there is one at least; both are in order.
func firstPlace(x, y []api.Term) int {
	switch {
	case len(x) == 0:
		return y[0].At
	case len(y) == 0:
		return x[0].At
	}
	return min(x[0].At, y[0].At)
}

// howMany tells how many of x's terms, which are in order, stand at its beginning and at that place.
func howMany(x []api.Term, at int) int {
	n := 0
	for n < len(x) && x[n].At == at {
		n++
	}
	return n
}

// sum tells what x's terms come to, wherever they stand: of one term its own number, as it stands.
func sum(x []api.Term) api.Rat {
	if len(x) == 0 {
		return api.Rat{}
	}
	total := x[0].X
	for _, term := range x[1:] {
		total = ratio.Add(total, term.X)
	}
	return total
}
