package ratio

import (
	"tripwire/api"
	"tripwire/whole"
)

// Add tells a + b.
func Add(a, b api.Rat) api.Rat {
	return both(a, b, func(x, y api.Int) api.Int { return whole.Add(x, y) })
}

// Sub tells a - b.
func Sub(a, b api.Rat) api.Rat {
	return both(a, b, func(x, y api.Int) api.Int { return whole.Sub(x, y) })
}

// both tells what do makes of what a and b have above the line, when both are brought to one denominator.
// It is the least that there is: in any other, what the two have in common would be squared, and divided out again.
func both(a, b api.Rat, do func(x, y api.Int) api.Int) api.Rat {
	if len(a.Den.Abs) == 0 && len(b.Den.Abs) == 0 { // whole numbers are most of what is added
		return api.Rat{Num: do(a.Num, b.Num)}
	}
	x, den := parts(a)
	y, other := parts(b)
	common := whole.Gcd(den, other)
	lift := share(other, common)
	num := do(whole.Mul(x, lift), whole.Mul(y, share(den, common)))
	return lowest(num, whole.Mul(den, lift))
}

// Mul tells a times b.
func Mul(a, b api.Rat) api.Rat {
	x, den := parts(a)
	y, other := parts(b)
	return lowest(whole.Mul(x, y), whole.Mul(den, other))
}

// Quo tells a / b; 0, if b is 0.
func Quo(a, b api.Rat) api.Rat {
	x, den := parts(a)
	y, other := parts(b)
	return Make(whole.Mul(x, other), whole.Mul(den, y))
}

// Div tells a / b; ErrZero, if b is 0.
func Div(a, b api.Rat) (api.Rat, api.Errno) {
	if Sign(b) == 0 {
		return api.Rat{}, api.ErrZero
	}
	return Quo(a, b), api.OK
}

// Neg tells -a.
func Neg(a api.Rat) api.Rat {
	return Norm(turned(a))
}

// turned is -a with a's own digits: only to be read.
func turned(a api.Rat) api.Rat {
	a.Num.Neg = !a.Num.Neg
	return a
}

// Abs tells a without its sign.
func Abs(a api.Rat) api.Rat {
	if Sign(a) < 0 {
		return Neg(a)
	}
	return Norm(a)
}
