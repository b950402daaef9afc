package digits_test

import (
	"math"
	"math/big"
	"slices"
	"strings"
	"testing"

	"tripwire/api"
	"tripwire/digits"
	"tripwire/whole"
)

// The chapter's examples.
func TestExamples(t *testing.T) {
	for _, c := range []struct {
		a    api.Int
		want string
	}{
		{api.Int{Abs: []uint64{0, 1}}, "18446744073709551616"},
		{whole.Of(-5), "-5"},
		{whole.Of(0), "0"},
	} {
		if got := digits.Text(c.a); got != c.want {
			t.Errorf("Text %v: %q, want %q", c.a, got, c.want)
		}
	}
	reads(t, "-12")
	for _, text := range []string{"", "-", "-0", "007", "+5", "1 2"} {
		refused(t, text, api.ErrDigits)
	}
	refused(t, strings.Repeat("1", 601), api.ErrLong)
}

// P3.1: Text of numbers of both signs, in their one form and in another.
func TestText(t *testing.T) {
	for _, text := range numerals() {
		a := number(t, text)
		for _, form := range []api.Int{a, roomy(a)} {
			if got := digits.Text(form); got != text {
				t.Errorf("Text: got %q, want %q", got, text)
			}
		}
	}
}

// P3.1: 0 in each of its forms is 0, without a sign.
func TestTextOfZero(t *testing.T) {
	for _, size := range [][]uint64{nil, {}, {0}, {0, 0, 0}} {
		for _, neg := range []bool{false, true} {
			if got := digits.Text(api.Int{Neg: neg, Abs: size}); got != "0" {
				t.Errorf("Text of 0 as %t %d: %q", neg, size, got)
			}
		}
	}
}

// P3.1: the ends of an int64 and of a digit of 64 bits.
func TestTextAtEnds(t *testing.T) {
	const top = 1<<64 - 1
	for _, c := range []struct {
		a    api.Int
		want string
	}{
		{whole.Of(math.MinInt64), "-9223372036854775808"},
		{whole.Of(math.MaxInt64), "9223372036854775807"},
		{api.Int{Abs: []uint64{top}}, "18446744073709551615"},
		{api.Int{Neg: true, Abs: []uint64{top, 0}}, "-18446744073709551615"},
		{api.Int{Abs: []uint64{top, top}}, "340282366920938463463374607431768211455"},
		{api.Int{Neg: true, Abs: []uint64{1, 1, 0}}, "-18446744073709551617"},
	} {
		if got := digits.Text(c.a); got != c.want {
			t.Errorf("Text %v: %q, want %q", c.a, got, c.want)
		}
	}
}

// P3.1: however many digits they are.
func TestTextOfManyDigits(t *testing.T) {
	x := new(big.Int).Lsh(big.NewInt(1), 1<<18)
	for _, text := range append(near(x), manyDigits(50000)...) {
		if digits.Text(number(t, text)) != text {
			t.Errorf("Text of a number of %d digits is another one", len(text))
		}
	}
}

// P3.1, R3: what is handed in isn't changed, its spare room neither.
func TestTextLeavesDigits(t *testing.T) {
	for _, text := range numerals() {
		a := roomy(number(t, text))
		all := a.Abs[:len(a.Abs)+2]
		kept := slices.Clone(all)
		digits.Text(a)
		if !slices.Equal(all, kept) {
			t.Fatalf("Text of %s has changed the number", text)
		}
	}
}

// reads asks for the number that the library reads in the text.
func reads(t *testing.T, text string) {
	t.Helper()
	got, err := digits.Parse(text)
	same(t, text, got, number(t, text))
	if err != api.OK {
		t.Errorf("Parse of %q: error %d", text, err)
	}
}

// P3.2: numerals of 600 digits and less are read, longer ones are too long.
func TestParse(t *testing.T) {
	for _, text := range numerals() {
		if len(strings.TrimPrefix(text, "-")) > 600 {
			refused(t, text, api.ErrLong)
			continue
		}
		reads(t, text)
	}
}

// P3.3: Parse of Text is the number, in its one form; Text of what Parse tells is the text.
func TestBack(t *testing.T) {
	for _, text := range numerals() {
		a := number(t, text)
		got, err := digits.Parse(digits.Text(roomy(a)))
		switch {
		case len(strings.TrimPrefix(text, "-")) > 600:
			if err != api.ErrLong {
				t.Errorf("Parse of Text of %q: error %d", text, err)
			}
			continue
		case err != api.OK:
			t.Errorf("Parse of Text of %q: error %d", text, err)
		}
		same(t, text, got, a)
		if back := digits.Text(got); back != text {
			t.Errorf("Text of Parse of %q: %q", text, back)
		}
	}
}

// R3: what Parse tells is memory of its own.
func TestParseTellsNewDigits(t *testing.T) {
	for _, text := range []string{"7", "-18446744073709551616", strings.Repeat("9", 600)} {
		one, _ := digits.Parse(text)
		two, _ := digits.Parse(text)
		room := one.Abs[:cap(one.Abs)]
		for i := range room {
			room[i] = 99
		}
		same(t, text, two, number(t, text))
		three, _ := digits.Parse(text)
		same(t, text, three, number(t, text))
	}
}
