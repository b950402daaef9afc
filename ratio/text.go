package ratio

import (
	"strings"

	"tripwire/api"
	"tripwire/digits"
	"tripwire/whole"
)

// slash stands between the two numerals of a fraction that isn't whole.
const slash = "/"

// Text tells a's numeral, or both of them with a / between.
func Text(a api.Rat) string {
	a = Norm(a)
	if len(a.Den.Abs) == 0 {
		return digits.Text(a.Num)
	}
	return digits.Text(a.Num) + slash + digits.Text(a.Den)
}

// Parse tells the fraction whose text s is: ErrDigits, if it is none; ErrLong, if a numeral of it has more than MaxDigits digits; ErrZero, if it is divided by 0.
func Parse(s string) (api.Rat, api.Errno) {
	above, below, divided := strings.Cut(s, slash)
	if !divided {
		below = "1"
	}
	num, fault := digits.Parse(above)
	den, other := digits.Parse(below)
	switch {
	case fault == api.ErrDigits || other == api.ErrDigits || strings.HasPrefix(below, "-"):
		return api.Rat{}, api.ErrDigits
	case fault != api.OK || other != api.OK:
		return api.Rat{}, api.ErrLong
	case whole.Sign(den) == 0:
		return api.Rat{}, api.ErrZero
	}
	return Make(num, den), api.OK
}
