package limbs

import "math/bits"

// DivMod tells q and r with a = q b + r, r below b; 0 and 0, if b is 0.
func DivMod(a, b []uint64) ([]uint64, []uint64) {
	a, b = cut(a), cut(b)
	switch {
	case len(b) == 0:
		return nil, nil
	case Cmp(a, b) < 0:
		return nil, Trim(a)
	case len(b) == 1:
		quotient := make([]uint64, len(a))
		rest := divideByDigit(quotient, a, b[0])
		return cut(quotient), cut([]uint64{rest})
	}
	return divideLong(a, b)
}

// divideByDigit fills quotient, of as many digits as a, and tells the rest; b isn't 0.
func divideByDigit(quotient, a []uint64, b uint64) uint64 {
	rest := uint64(0)
	for k := range len(a) {
		i := len(a) - 1 - k
		quotient[i], rest = bits.Div64(rest, a[i], b)
	}
	return rest
}

// divideLong divides by a number of two digits or more, a not below b, both without 0 on top.
func divideLong(a, b []uint64) ([]uint64, []uint64) {
	n := len(b)
	// A guess from two digits is only near if the divisor's top bit is set.
	step := uint(bits.LeadingZeros64(b[n-1]))
	rest := make([]uint64, len(a)+1)
	raise(rest, a, step)
	divisor := make([]uint64, n)
	raise(divisor, b, step)
	quotient := make([]uint64, len(a)-n+1)
	for k := range len(quotient) {
		i := len(quotient) - 1 - k
		quotient[i] = takeOut(rest[i:i+n+1], divisor)
	}
	rest = rest[:n]
	lower(rest, rest, step)
	return cut(quotient), cut(rest)
}

// takeOut leaves in part what is left when the divisor is taken out of it as often as it goes, and tells how often. Part has one digit more than the divisor, and is below it times 2^64.
func takeOut(part, divisor []uint64) uint64 {
	times := guess(part, divisor)
	for below := takeProduct(part, divisor, times); below; times-- {
		below = !giveBack(part, divisor)
	}
	return times
}

// guess tells how often the divisor goes into part, by the top three digits of the one and the top two of the other: never too few, and one too many at most.
func guess(part, divisor []uint64) uint64 {
	n := len(divisor)
	top, next := divisor[n-1], divisor[n-2]
	if part[n] >= top {
		return maxDigit
	}
	times, rest := bits.Div64(part[n], part[n-1], top)
	high, low := bits.Mul64(times, next)
	for high > rest || high == rest && low > part[n-2] {
		times--
		var borrow, carry uint64
		low, borrow = bits.Sub64(low, next, 0)
		high -= borrow
		rest, carry = bits.Add64(rest, top, 0)
		if carry != 0 { // what is left is longer than any product with next
			break
		}
	}
	return times
}

// takeProduct takes the divisor times x out of part, and tells whether that went below 0: then part has wrapped round.
func takeProduct(part, divisor []uint64, x uint64) bool {
	carry, borrow := uint64(0), uint64(0)
	for i := range len(divisor) {
		var low uint64
		low, carry = product(divisor[i], x, carry)
		part[i], borrow = bits.Sub64(part[i], low, borrow)
	}
	n := len(divisor)
	part[n], borrow = bits.Sub64(part[n], carry, borrow)
	return borrow != 0
}

// giveBack adds the divisor to part, and tells whether part has wrapped round, back from below 0.
func giveBack(part, divisor []uint64) bool {
	digit := digitOf(divisor)
	carry := uint64(0)
	for i := range len(part) {
		part[i], carry = bits.Add64(part[i], digit(i), carry)
	}
	return carry != 0
}
