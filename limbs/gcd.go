package limbs

import "math/bits"

// Gcd tells the greatest number that divides both; the other one, if one is 0.
func Gcd(a, b []uint64) []uint64 {
	a, b = cut(a), cut(b)
	if Cmp(a, b) < 0 {
		a, b = b, a
	}
	if len(b) > 1 {
		a, b = shorten(Trim(a), Trim(b))
	}
	if len(b) == 0 {
		return Trim(a)
	}
	x, y := b[0], restOfDigit(a, b[0])
	for y != 0 {
		x, y = y, x%y
	}
	return []uint64{x}
}

// restOfDigit tells a's rest by b, which isn't 0.
func restOfDigit(a []uint64, b uint64) uint64 {
	rest := uint64(0)
	for k := range len(a) {
		_, rest = bits.Div64(rest, a[len(a)-1-k], b)
	}
	return rest
}

// shorten goes on with Euclid's steps till the lesser number has one digit at most; a is not below b. It writes into both lists.
// Most steps are worked out on the leading bits alone and then done all at once (Lehmer's way), for nearly all of the time of fractions goes here.
func shorten(a, b []uint64) ([]uint64, []uint64) {
	for len(b) > 1 {
		first, second, turn := foresee(leading(a, b))
		switch {
		case first.less == 0: // the leading bits tell no step for sure
			_, rest := divideLong(a, b)
			a, b = b, rest
		case turn: // the other way round, both signs are as they must be
			a, b = leap(b, a, first.turned(), second.turned(), len(b))
		default:
			a, b = leap(a, b, first, second, len(b))
		}
	}
	return a, b
}

// leading tells the 64 bits of a from its top one on, and the bits of b that stand at the same places.
func leading(a, b []uint64) (uint64, uint64) {
	n := len(a)
	step := uint(bits.LeadingZeros64(a[n-1]))
	at := func(digit func(i int) uint64) uint64 {
		return digit(n-1)<<step | digit(n-2)>>(digitBits-step)
	}
	return at(digitOf(a)), at(digitOf(b))
}

// mix is how a number of Euclid's row is made of the first two, a and b: it is times a - less b, or that with its sign changed; the sign changes from each number of the row to the next.
type mix struct {
	times, less uint64
}

func (m mix) turned() mix {
	return mix{times: m.less, less: m.times}
}

// foresee does Euclid's steps on the leading bits x and y of two numbers, as long as the quotients are sure to be those of the numbers themselves (Collins's condition). It tells how the last two numbers that are sure are made, and whether the first of these (and not the second) needs its sign changed.
func foresee(x, y uint64) (mix, mix, bool) {
	first, second, third := mix{}, mix{times: 1}, mix{less: 1}
	turn := true
	for y >= third.less && x-y >= second.less+third.less {
		q := x / y
		x, y = y, x%y
		first, second, third = second, third, mix{
			times: second.times + q*third.times,
			less:  second.less + q*third.less,
		}
		turn = !turn
	}
	return first, second, turn
}

// leap writes over a and b what first and second make of them, and tells these; second needs its sign changed. Both have n digits at most, so that what is above needn't be worked out.
func leap(a, b []uint64, first, second mix, n int) ([]uint64, []uint64) {
	one, two := blend{by: first}, blend{by: second.turned()}
	for i := range n {
		x, y := a[i], b[i]
		a[i], b[i] = one.next(x, y), two.next(y, x)
	}
	return cut(a[:n]), cut(b[:n])
}

// blend works out a mix of two numbers digit by digit, from the least on.
type blend struct {
	by          mix
	over, under uint64 // carried: of what is added, of what is taken away
	borrow      uint64
}

func (b *blend) next(x, y uint64) uint64 {
	var more, less, digit uint64
	more, b.over = product(x, b.by.times, b.over)
	less, b.under = product(y, b.by.less, b.under)
	digit, b.borrow = bits.Sub64(more, less, b.borrow)
	return digit
}
