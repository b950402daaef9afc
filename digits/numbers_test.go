package digits_test

import (
	"encoding/binary"
	"math/big"
	"slices"
	"strings"
	"testing"

	"tripwire/api"
)

// number tells the one form of what the library, which the tests take for right, reads in a text.
func number(t *testing.T, text string) api.Int {
	t.Helper()
	x, ok := new(big.Int).SetString(text, 10)
	if !ok {
		t.Fatalf("%q is no number", text)
	}
	size := x.FillBytes(make([]byte, (x.BitLen()+63)/64*8))
	out := api.Int{Neg: x.Sign() < 0}
	for digit := range slices.Chunk(size, 8) {
		out.Abs = append(out.Abs, binary.BigEndian.Uint64(digit))
	}
	slices.Reverse(out.Abs)
	return out
}

// same asks for this sign and these digits: what isn't in its one form is never the same as what is.
func same(t *testing.T, text string, got, want api.Int) {
	t.Helper()
	if got.Neg != want.Neg || !slices.Equal(got.Abs, want.Abs) {
		t.Errorf("%q: got %v, want %v", text, got, want)
	}
}

// roomy is a with spare room and noughts on top: another form of the same number.
func roomy(a api.Int) api.Int {
	all := append(slices.Clone(a.Abs), 0, 0, 11, 12)
	return api.Int{Neg: a.Neg, Abs: all[:len(a.Abs)+2]}
}

// near tells the numerals of x less 1, x, and x with 1 more.
func near(x *big.Int) []string {
	one := big.NewInt(1)
	return []string{new(big.Int).Sub(x, one).String(), x.String(), new(big.Int).Add(x, one).String()}
}

// manyDigits tells numerals of n digits: all the same, with long rows of noughts, and with a digit alone among them.
func manyDigits(n int) []string {
	nines, noughts := strings.Repeat("9", n), strings.Repeat("0", n-1)
	mixed := []byte(strings.Repeat("1234567890", n/10+1)[:n])
	one := []byte("7" + noughts)
	one[n/2] = '8'
	return []string{nines, "1" + noughts, string(mixed), string(one), strings.Repeat("1", n)}
}

// sizes tells numerals of numbers from 0 on: at every length a digit may be carried to, in tens and in twos, and at the ends of what is read.
func sizes() []string {
	var out []string
	for n := range 1200 {
		out = append(out, big.NewInt(int64(n)).String())
	}
	ten := big.NewInt(10)
	for n := int64(1); n <= 160; n++ {
		out = append(out, near(new(big.Int).Exp(ten, big.NewInt(n), nil))...)
	}
	for n := uint(1); n <= 1300; n++ {
		out = append(out, near(new(big.Int).Lsh(big.NewInt(1), n))...)
	}
	for n := int64(19); n <= 5000; n *= 2 { // where a text is put together of twice as many pieces
		out = append(out, near(new(big.Int).Exp(ten, big.NewInt(n), nil))...)
	}
	for _, n := range []int{1, 2, 17, 18, 19, 20, 21, 37, 38, 39, 57, 58, 76, 77, 300, 598, 599, 600, 601, 602, 1000, 3000} {
		out = append(out, manyDigits(n)...)
	}
	return out
}

// numerals tells the numerals of numbers of both signs.
func numerals() []string {
	var out []string
	for _, text := range sizes() {
		out = append(out, text)
		if text != "0" {
			out = append(out, "-"+text)
		}
	}
	return out
}
