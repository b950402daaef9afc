package sparse

import (
	"tripwire/api"
	"tripwire/ratio"
)

// Add tells at each place the sum of x's and y's.
func Add(x, y api.Vec) api.Vec {
	return joined(x, y, ratio.Add)
}

// Axpy tells at each place the sum of y's and a times x's.
func Axpy(y api.Vec, a api.Rat, x api.Vec) api.Vec {
	return joined(y, x, func(v, w api.Rat) api.Rat {
		switch { // at most places only one has anything: no sum has to be brought to lowest terms there
		case ratio.Sign(w) == 0:
			return ratio.Norm(v)
		case ratio.Sign(v) == 0:
			return ratio.Mul(a, w)
		}
		return ratio.Add(v, ratio.Mul(a, w))
	})
}

// Scale tells at each place a times x's.
func Scale(a api.Rat, x api.Vec) api.Vec {
	return joined(x, nil, func(v, _ api.Rat) api.Rat { return ratio.Mul(a, v) })
}

// Dot tells the sum of the products of x's and y's at all places.
func Dot(x, y api.Vec) api.Rat {
	total := api.Rat{}
	walk(x, y, func(_ int, v, w api.Rat) bool {
		if ratio.Sign(v) != 0 && ratio.Sign(w) != 0 {
			total = ratio.Add(total, ratio.Mul(v, w))
		}
		return true
	})
	return total
}
