package ratio

import (
	"cmp"

	"tripwire/api"
	"tripwire/whole"
)

// Cmp tells whether a is below b (-1), the same (0) or above (1).
func Cmp(a, b api.Rat) int {
	sign, other := Sign(a), Sign(b)
	if sign != other {
		return cmp.Compare(sign, other)
	}
	x, under := parts(a)
	y, below := parts(b)
	return whole.Cmp(whole.Mul(x, below), whole.Mul(y, under))
}

// Sign tells whether a is below 0 (-1), 0, or above (1).
func Sign(a api.Rat) int {
	sign := whole.Sign(a.Num)
	if len(a.Den.Abs) > 0 {
		sign *= whole.Sign(a.Den)
	}
	return sign
}

// Same tells whether a and b count the same.
func Same(a, b api.Rat) bool {
	return Cmp(a, b) == 0
}

// Max tells the greater one of a and b.
func Max(a, b api.Rat) api.Rat {
	if Cmp(a, b) < 0 {
		a = b
	}
	return Norm(a)
}

// Min tells the lesser one of a and b.
func Min(a, b api.Rat) api.Rat {
	if Cmp(a, b) > 0 {
		a = b
	}
	return Norm(a)
}

// Floor tells the greatest whole number that is not above a.
func Floor(a api.Rat) api.Int {
	quotient, _ := whole.DivMod(parts(a)) // whose rest is never below 0
	return quotient
}

// Ceil tells the least whole number that is not below a.
func Ceil(a api.Rat) api.Int {
	return whole.Neg(Floor(turned(a)))
}

// IsWhole tells whether a is a whole number.
func IsWhole(a api.Rat) bool {
	_, rest := whole.DivMod(parts(a))
	return whole.Sign(rest) == 0
}
