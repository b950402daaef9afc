// Package limbs is layer 1: whole numbers from 0 on, in digits of 64 bits, the least first.
// What a call is handed is only read: the views taken of it never reach an answer.
package limbs

const (
	digitBits = 64
	maxDigit  = 1<<digitBits - 1
)

// Trim tells a in its one form.
func Trim(a []uint64) []uint64 {
	out := make([]uint64, len(cut(a)))
	copy(out, a)
	return cut(out)
}

// Cmp tells whether a is below b (-1), the same (0) or above (1).
func Cmp(a, b []uint64) int {
	a, b = cut(a), cut(b)
	if len(a) != len(b) {
		return order(len(a) < len(b))
	}
	for k := range len(a) {
		i := len(a) - 1 - k
		if a[i] != b[i] {
			return order(a[i] < b[i])
		}
	}
	return 0
}

func order(below bool) int {
	if below {
		return -1
	}
	return 1
}

// cut is a view of a without the digits on top that are 0; of 0 it's nil, so that no answer of 0 holds on to memory.
func cut(a []uint64) []uint64 {
	n := len(a)
	for n > 0 && a[n-1] == 0 {
		n--
	}
	if n == 0 {
		return nil
	}
	return a[:n]
}

// digitOf reads a's digits; those that a list doesn't have, below or above, count as 0.
func digitOf(a []uint64) func(i int) uint64 {
	return func(i int) uint64 {
		if i < 0 || i >= len(a) {
			return 0
		}
		return a[i]
	}
}
