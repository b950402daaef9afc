package ratio_test

import (
	"fmt"
	"math/big"
	"strings"
	"testing"

	"tripwire/api"
	"tripwire/ratio"
)

// parses asks for that fraction and that error.
func parses(t *testing.T, text string, want api.Rat, fault api.Errno) {
	t.Helper()
	got, err := ratio.Parse(text)
	what := fmt.Sprintf("Parse of %.40q (%d bytes)", text, len(text))
	same(t, what, got, want)
	if err != fault {
		t.Errorf("%s: error %d, want %d", what, err, fault)
	}
}

func reads(t *testing.T, text string, want api.Rat) {
	t.Helper()
	parses(t, text, want, api.OK)
}

// refused asks for that error, and for nothing beside it.
func refused(t *testing.T, text string, fault api.Errno) {
	t.Helper()
	parses(t, text, api.Rat{}, fault)
}

// P4.3: Text, of any form and length. P4.4: Parse of it is the fraction.
func TestText(t *testing.T) {
	each(func(a api.Rat) {
		want := toBig(a).RatString()
		if got := ratio.Text(a); got != want {
			t.Errorf("Text of %v: %q, want %q", a, got, want)
		}
		reads(t, want, ratio.Norm(a))
	})
}

// P4.3: numerals, and fractions in lowest terms or not, on both sides of 0.
func TestParse(t *testing.T) {
	for _, text := range []string{
		"0", "1", "-1", "12", "-18446744073709551616", "0/1", "0/7", "1/1", "-1/1", "6/3", "-6/3", "4/6", "-4/6", "-100/250",
		"18446744073709551616/340282366920938463463374607431768211456", "3/18446744073709551617", "10/100000000000000000000",
	} {
		reads(t, text, frac(text))
	}
	for num := -30; num <= 30; num++ {
		for den := 1; den <= 30; den++ {
			x := big.NewRat(int64(num), int64(den))
			reads(t, big.NewInt(int64(num)).String()+"/"+big.NewInt(int64(den)).String(), fromBig(x))
		}
	}
}

// P4.3: signs, noughts, blanks and slashes that may not be.
func TestNoFraction(t *testing.T) {
	for _, text := range []string{
		"", "/", "//", "-", "-/", "-/2", "/2", "/-2", "1/", "-1/", "1/-", "1/-2", "-1/-2", "1/-0", "0/-1", "-0/1", "-0", "-0/0", "00/1", "01/2", "-01/2",
		"1/02", "1/00", "1//2", "1/2/3", "1/2/", "/1/2", "1/0/2", "+1/2", "1/+2", " 1/2", "1 /2", "1/ 2", "1/2 ", "1 2", "1/2\n", "\t1/2",
		"1.5", "0.5", "1/2.0", "1e2", "1e2/3", "0x1/2", "1/0x2", "1_0/2", "1:2", "1\\2", "1\u20442", "1\u22152", "\u00bd", "1/\u0662", "1/\xff", "\xff/1", "1/2\x00", "a", "a/2", "1/b",
	} {
		refused(t, text, api.ErrDigits)
	}
}

// P4.3: what is divided by 0.
func TestDividedByZero(t *testing.T) {
	for _, text := range []string{"0/0", "1/0", "-1/0", "18446744073709551616/0", strings.Repeat("9", 600) + "/0", "-" + strings.Repeat("9", 600) + "/0"} {
		refused(t, text, api.ErrZero)
	}
}

// P4.3: each numeral may have 600 digits, a - ahead is none of them.
func TestLength(t *testing.T) {
	for n := 598; n <= 602; n++ {
		long := "1" + strings.Repeat("7", n-1)
		for _, text := range []string{long, "-" + long, long + "/7", "-" + long + "/7", "7/" + long, "-7/" + long, long + "/" + long, "-" + long + "/" + long} {
			if n > 600 {
				refused(t, text, api.ErrLong)
				continue
			}
			reads(t, text, frac(text))
		}
	}
	refused(t, strings.Repeat("7", 1<<20)+"/"+strings.Repeat("7", 1<<20), api.ErrLong)
}

// The table of Errors: ErrDigits comes ahead of ErrLong, ErrLong ahead of ErrZero, whichever of the two numerals shows them.
func TestOrderOfErrors(t *testing.T) {
	for _, n := range []int{601, 5000} {
		long := strings.Repeat("1", n)
		for _, text := range []string{
			long + "/", "/" + long, long + "/-2", long + "/02", long + "/x", "x/" + long, "-/" + long, "-0/" + long, "01/" + long, "1/-" + long, "1/0" + long, "-" + long + "/-" + long,
			long + "/" + long + "x", "x" + long + "/" + long, long + "/" + long + "/1", long + "/0/0", "/0", "x/0", "-0/0", "1/0" + "/0", "00/0", "1/00", long + "/00", long + "/-0",
		} {
			refused(t, text, api.ErrDigits)
		}
		refused(t, long+"/0", api.ErrLong)
		refused(t, "-"+long+"/0", api.ErrLong)
		refused(t, "0/"+long, api.ErrLong)
	}
}

// P4.4: what is too long to be read can still be told; it is refused behind the - and the /.
func TestTextTooLong(t *testing.T) {
	nines := new(big.Int).Sub(new(big.Int).Exp(big.NewInt(10), big.NewInt(600), nil), big.NewInt(1))
	more := new(big.Int).Add(nines, big.NewInt(1))
	for _, x := range []*big.Rat{new(big.Rat).SetFrac(nines, more), new(big.Rat).SetFrac(more, nines), new(big.Rat).SetInt(new(big.Int).Neg(more))} {
		text := ratio.Text(fromBig(x))
		if text != x.RatString() {
			t.Errorf("Text: %q, want %q", text, x.RatString())
		}
		refused(t, text, api.ErrLong)
	}
	reads(t, nines.String(), api.Rat{Num: wholeOf(nines)})
}
