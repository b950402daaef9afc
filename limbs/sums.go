package limbs

import "math/bits"

// Add tells a + b.
func Add(a, b []uint64) []uint64 {
	a, b = cut(a), cut(b)
	if len(a) < len(b) {
		a, b = b, a
	}
	digit := digitOf(b)
	out := make([]uint64, len(a)+1)
	carry := uint64(0)
	for i := range len(a) {
		out[i], carry = bits.Add64(a[i], digit(i), carry)
	}
	out[len(a)] = carry
	return cut(out)
}

// Sub tells a - b, or 0 if a is below b.
func Sub(a, b []uint64) []uint64 {
	if Cmp(a, b) < 0 {
		return nil
	}
	digit := digitOf(b)
	out := make([]uint64, len(a))
	borrow := uint64(0)
	for i := range len(a) {
		out[i], borrow = bits.Sub64(a[i], digit(i), borrow)
	}
	return cut(out)
}

// Mul tells a times b.
func Mul(a, b []uint64) []uint64 {
	a, b = cut(a), cut(b)
	out := make([]uint64, len(a)+len(b))
	for i := range len(a) {
		out[i+len(b)] = addProduct(out[i:i+len(b)], b, a[i])
	}
	return cut(out)
}

// addProduct adds b times x to sum, which has as many digits as b, and tells the digit that is carried out of it.
func addProduct(sum, b []uint64, x uint64) uint64 {
	carry := uint64(0)
	for i := range len(b) {
		var low, over uint64
		low, carry = product(b[i], x, carry)
		sum[i], over = bits.Add64(sum[i], low, 0)
		carry += over // never past its end: the greatest product, and two digits more, still have two digits
	}
	return carry
}

// product tells x times y and carry, the lower digit first.
func product(x, y, carry uint64) (uint64, uint64) {
	high, low := bits.Mul64(x, y)
	low, over := bits.Add64(low, carry, 0)
	return low, high + over
}
