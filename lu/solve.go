package lu

import (
	"slices"

	"tripwire/api"
	"tripwire/ratio"
	"tripwire/sparse"
)

// Ftran tells the x with the columns times x = b.
func (f *LU) Ftran(b api.Vec) (api.Vec, api.Errno) {
	rows, err := f.side(b)
	if err != api.OK {
		return nil, err
	}
	for _, s := range f.steps { // b goes the way that the rows went
		addTo(rows, rows[s.at.row], s.below)
	}
	x := make([]api.Rat, len(rows))
	for _, s := range slices.Backward(f.steps) { // so that x is known at all other columns of the pivot's row
		if v := ratio.Sub(rows[s.at.row], products(s.right, x)); ratio.Sign(v) != 0 {
			x[s.at.col] = ratio.Quo(v, s.pivot)
		}
	}
	return sparse.Of(x), api.OK
}

// Btran tells the y with y times the columns = c.
func (f *LU) Btran(c api.Vec) (api.Vec, api.Errno) {
	cols, err := f.side(c)
	if err != api.OK {
		return nil, err
	}
	y := make([]api.Rat, len(cols))
	for _, s := range f.steps { // what is left of c at a pivot's column comes from its row alone
		if v := cols[s.at.col]; ratio.Sign(v) != 0 {
			y[s.at.row] = ratio.Quo(v, s.pivot)
			addTo(cols, ratio.Neg(y[s.at.row]), s.right)
		}
	}
	for _, s := range slices.Backward(f.steps) { // the rows' way back: y is to be of the rows as they came
		y[s.at.row] = ratio.Add(y[s.at.row], products(s.below, y))
	}
	return sparse.Of(y), api.OK
}

// side tells what one side of the equations has at each place, in a list of its own.
func (f *LU) side(v api.Vec) ([]api.Rat, api.Errno) {
	if f == nil || !f.made {
		return nil, api.ErrNil
	}
	out := make([]api.Rat, len(f.steps))
	for _, term := range sparse.Norm(v) { // as it counts: terms that come to 0 may stand at any place
		if term.At < 0 || term.At >= len(out) {
			return nil, api.ErrArg
		}
		out[term.At] = term.X
	}
	return out, api.OK
}

// addTo adds a times x to the numbers of a list.
func addTo(list []api.Rat, a api.Rat, x api.Vec) {
	if ratio.Sign(a) == 0 {
		return
	}
	for _, term := range x {
		list[term.At] = more(list[term.At], a, term.X)
	}
}

// products tells the sum of x's numbers, each times that of the list at its place.
func products(x api.Vec, list []api.Rat) api.Rat {
	total := api.Rat{}
	for _, term := range x {
		if v := list[term.At]; ratio.Sign(v) != 0 {
			total = more(total, term.X, v)
		}
	}
	return total
}

// more tells v + a w.
func more(v, a, w api.Rat) api.Rat {
	product := ratio.Mul(a, w)
	if ratio.Sign(v) == 0 { // so it is most often: then no sum has to be brought to lowest terms
		return product
	}
	return ratio.Add(v, product)
}
