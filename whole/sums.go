package whole

import (
	"tripwire/api"
	"tripwire/limbs"
)

// Add tells a + b.
func Add(a, b api.Int) api.Int {
	sign, other := signOf(a.Neg), signOf(b.Neg)
	switch {
	case a.Neg == b.Neg:
		return number(sign, limbs.Add(a.Abs, b.Abs))
	case limbs.Cmp(a.Abs, b.Abs) < 0:
		return number(other, limbs.Sub(b.Abs, a.Abs))
	}
	return number(sign, limbs.Sub(a.Abs, b.Abs))
}

// Sub tells a - b.
func Sub(a, b api.Int) api.Int {
	return Add(a, api.Int{Neg: !b.Neg, Abs: b.Abs}) // only read there, so that b's digits needn't be copied
}

// Mul tells a times b.
func Mul(a, b api.Int) api.Int {
	return number(signOf(a.Neg != b.Neg), limbs.Mul(a.Abs, b.Abs))
}

// DivMod tells q and r with a = q b + r, r from 0 on and below b's size; 0 and 0, if b is 0.
func DivMod(a, b api.Int) (api.Int, api.Int) {
	quotient, rest := limbs.DivMod(a.Abs, b.Abs)
	if a.Neg && limbs.Bits(rest) > 0 {
		// The sizes alone would leave a rest below 0: one more of b lifts it above.
		quotient, rest = limbs.Add(quotient, []uint64{1}), limbs.Sub(b.Abs, rest)
	}
	return number(signOf(a.Neg != b.Neg), quotient), number(signOf(false), rest)
}

// Gcd tells the greatest number that divides both; the size of the other one, if one is 0.
func Gcd(a, b api.Int) api.Int {
	return number(signOf(false), limbs.Gcd(a.Abs, b.Abs))
}
