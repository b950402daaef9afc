package limbs

import "math/bits"

// maxShift is how far up Shl goes.
const maxShift = 1 << 20

// Shl tells a times 2^n: a, if n is below 1; 0, if n is above 2^20.
func Shl(a []uint64, n int) []uint64 {
	a = cut(a)
	if n < 1 {
		return Trim(a)
	}
	if n > maxShift || len(a) == 0 {
		return nil
	}
	skip := n / digitBits
	out := make([]uint64, skip+len(a)+1)
	raise(out[skip:], a, uint(n%digitBits))
	return cut(out)
}

// Shr tells a divided by 2^n, without the rest: a, if n is below 1.
func Shr(a []uint64, n int) []uint64 {
	a = cut(a)
	if n < 1 {
		return Trim(a)
	}
	skip := n / digitBits
	if skip >= len(a) {
		return nil
	}
	out := make([]uint64, len(a)-skip)
	lower(out, a[skip:], uint(n%digitBits))
	return cut(out)
}

// Bits tells the least n with a below 2^n.
func Bits(a []uint64) int {
	a = cut(a)
	if len(a) == 0 {
		return 0
	}
	return (len(a)-1)*digitBits + bits.Len64(a[len(a)-1])
}

// raise fills out with the digits of a times 2^step, step below 64. Out is never a itself: a digit needs the one below as it was.
func raise(out, a []uint64, step uint) {
	digit := digitOf(a)
	for i := range len(out) {
		out[i] = digit(i)<<step | digit(i-1)>>(digitBits-step)
	}
}

// lower fills out with the digits of a divided by 2^step, step below 64. Out may be a itself.
func lower(out, a []uint64, step uint) {
	digit := digitOf(a)
	for i := range len(out) {
		out[i] = digit(i)>>step | digit(i+1)<<(digitBits-step)
	}
}
