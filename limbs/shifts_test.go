package limbs_test

import (
	"math"
	"math/big"
	"testing"

	"tripwire/limbs"
)

// P1.3: Shl and Shr by all kinds of steps, within a digit, by whole digits and between.
func TestShifts(t *testing.T) {
	steps := []int{0, 1, 2, 31, 63, 64, 65, 127, 128, 129, 300, 384, 1000}
	pairs(func(a, _ []uint64) {
		for _, n := range steps {
			same(t, "Shl", limbs.Shl(a, n), fromBig(new(big.Int).Lsh(toBig(a), uint(n))))
			same(t, "Shr", limbs.Shr(a, n), fromBig(new(big.Int).Rsh(toBig(a), uint(n))))
		}
	})
}

// P1.3: a step below 1 changes nothing but the form.
func TestShiftsBelowOne(t *testing.T) {
	for _, n := range []int{0, -1, -64, -65, math.MinInt} {
		is(t, "Shl", limbs.Shl([]uint64{5, 6, 0}, n), 5, 6)
		is(t, "Shr", limbs.Shr([]uint64{5, 6, 0}, n), 5, 6)
		is(t, "Shl of 0", limbs.Shl([]uint64{0}, n))
		is(t, "Shr of 0", limbs.Shr([]uint64{0}, n))
	}
}

// P1.3: Shl goes to 2^20 and tells 0 above; Shr has no upper end.
func TestShiftsFar(t *testing.T) {
	const most = 1 << 20
	far := make([]uint64, most/64+2)
	far[most/64], far[most/64+1] = top, 5
	same(t, "Shl by 2^20", limbs.Shl([]uint64{top, 5}, most), far)
	same(t, "Shr by 2^20", limbs.Shr(far, most), []uint64{top, 5})
	is(t, "Shr by 2^20 and more", limbs.Shr(far, most+65), 2)
	for _, n := range []int{most + 1, most + 64, math.MaxInt} {
		is(t, "Shl", limbs.Shl([]uint64{1}, n))
		is(t, "Shr", limbs.Shr([]uint64{top, top}, n))
	}
	is(t, "Shl of 0", limbs.Shl([]uint64{0, 0}, most))
	is(t, "Shr to the last bit", limbs.Shr([]uint64{0, 1 << 63}, 127), 1)
	is(t, "Shr past the last bit", limbs.Shr([]uint64{0, 1 << 63}, 128))
}

// P1.3: Bits.
func TestBits(t *testing.T) {
	for _, c := range []struct {
		a    []uint64
		want int
	}{
		{nil, 0}, {[]uint64{0, 0}, 0}, {[]uint64{1}, 1}, {[]uint64{1, 0}, 1}, {[]uint64{2}, 2}, {[]uint64{3}, 2},
		{[]uint64{4}, 3}, {[]uint64{top}, 64}, {[]uint64{0, 1}, 65}, {[]uint64{top, top, 0}, 128},
	} {
		if got := limbs.Bits(c.a); got != c.want {
			t.Errorf("Bits %d: %d", c.a, got)
		}
	}
	pairs(func(a, _ []uint64) {
		if got := limbs.Bits(a); got != toBig(a).BitLen() {
			t.Errorf("Bits %d: %d", a, got)
		}
	})
}
