package integer

import (
	"strings"

	"geoprover/api"
	"geoprover/natural"
)

// Text returns the decimal numeral of a, after a minus sign if a is negative.
func Text(a api.Int) string {
	numeral := natural.Text(a.Abs)
	if Sign(a) < 0 {
		return "-" + numeral
	}
	return numeral
}

// Read returns the integer with the numeral s, which may begin with a minus sign. It returns the error of natural.Read for what follows the minus sign, and then ErrForm for -0.
func Read(s string) (api.Int, api.Errno) {
	numeral, neg := strings.CutPrefix(s, "-")
	abs, e := natural.Read(numeral)
	switch {
	case e != api.OK:
		return api.Int{}, e
	case neg && len(abs) == 0:
		return api.Int{}, api.ErrForm
	}
	return signed(neg, abs), api.OK
}
