package digits_test

import (
	"strings"
	"testing"

	"tripwire/api"
	"tripwire/digits"
)

// refused asks for that error, and for nothing beside it.
func refused(t *testing.T, text string, want api.Errno) {
	t.Helper()
	got, err := digits.Parse(text)
	if err != want {
		t.Errorf("Parse of %.40q (%d bytes): error %d, want %d", text, len(text), err, want)
	}
	if got.Neg || len(got.Abs) > 0 {
		t.Errorf("Parse of %.40q (%d bytes): %v beside an error", text, len(text), got)
	}
}

// P3.2: signs, noughts and blanks that may not be.
func TestNoNumeral(t *testing.T) {
	for _, text := range []string{
		"", "-", "--", "---1", "--1", "-+1", "+-1", "+", "+5", "+0", "1-", "1-2", "-1-", "5+",
		"-0", "-00", "-01", "-007", "00", "000", "01", "007", "-0-",
		" ", " 1", "1 ", "1 2", "- 1", "-1 ", "\t1", "1\n", "\r1", "\v1", "1\u00a0", "\u20071", "\ufeff1",
		"1_000", "1,000", "1.0", ".5", "5.", "1e3", "0x10", "0b1", "0o7", "1/2", "inf", "nan", "a", "f", "1a",
	} {
		refused(t, text, api.ErrDigits)
	}
}

// P3.2: a byte that is no digit, at each place.
func TestOtherBytes(t *testing.T) {
	for b := range 256 {
		if b >= '0' && b <= '9' {
			continue
		}
		other := string([]byte{byte(b)})
		if b != '-' {
			refused(t, other+"12", api.ErrDigits)
			refused(t, other, api.ErrDigits)
		}
		for _, text := range []string{"1" + other + "2", "12" + other, "-" + other, "-" + other + "1", "-1" + other + "2", "0" + other} {
			refused(t, text, api.ErrDigits)
		}
	}
}

// P3.2: runes that count as digits elsewhere, or end in a digit's byte; bytes that are no text in UTF-8.
func TestOtherRunes(t *testing.T) {
	for _, other := range []string{
		"\u0661", "\uff11", "\u0967", "\u00b2", "\u2460", "\U0001d7ce", "\u2212", "\uff0d",
		"\u0130", "\u0139", "\u3031", "\U00010030", "\ufffd",
		"\xff", "\x80", "\xc3", "\xc0\xb1", "\xe0\x80\xb1", "\xf0\x80\x80\xb1", "\xed\xa0\xb1", "\xb1", "\xc3\x28", "\xf4\x90\x80\x80",
	} {
		for _, text := range []string{other, other + "1", "1" + other, "1" + other + "1", "-" + other, "-1" + other} {
			refused(t, text, api.ErrDigits)
		}
	}
}

// P3.2: 600 digits are read, a - ahead is none of them; 601 are too long.
func TestLength(t *testing.T) {
	for n := 590; n <= 610; n++ {
		for _, size := range manyDigits(n) {
			for _, text := range []string{size, "-" + size} {
				if n > 600 {
					refused(t, text, api.ErrLong)
					continue
				}
				reads(t, text)
			}
		}
	}
	refused(t, strings.Repeat("7", 1<<22), api.ErrLong)
	refused(t, "-"+strings.Repeat("7", 1<<22), api.ErrLong)
}

// The table of Errors: a text that is both too long and no numeral is no numeral, wherever that is to be seen.
func TestLongAndNoNumeral(t *testing.T) {
	for _, n := range []int{600, 601, 1000, 1 << 20} {
		ones, noughts := strings.Repeat("1", n), strings.Repeat("0", n)
		for _, text := range []string{
			"0" + ones, "-0" + ones, noughts, "-" + noughts, "--" + ones, "+" + ones, " " + ones,
			ones + " ", ones + "-", ones + "\xff", ones + "x", ones + "\u0661", ones + "." + ones, ones + "-" + ones, "-" + ones + "\x00",
			strings.Repeat(" ", n), strings.Repeat("-", n), strings.Repeat("\xff", n), strings.Repeat("\uff11", n),
		} {
			refused(t, text, api.ErrDigits)
		}
	}
}
