package rational

import (
	"strings"

	"geoprover/api"
	"geoprover/integer"
	"geoprover/natural"
)

// Text returns the numeral of a in lowest terms: p or p/q.
func Text(a api.Rat) string {
	a = lowest(parts(a))
	numeral := integer.Text(a.Num)
	if isOne(a.Den) {
		return numeral
	}
	return numeral + "/" + natural.Text(a.Den)
}

// Read returns the number with the form p or p/q. It returns the error of integer.Read for p, then that of natural.Read for q, and then ErrZero if q is 0.
func Read(s string) (api.Rat, api.Errno) {
	before, behind, slash := strings.Cut(s, "/")
	num, e := integer.Read(before)
	if e != api.OK {
		return api.Rat{}, e
	}
	den := natural.Of(1)
	if slash {
		den, e = natural.Read(behind)
	}
	if e != api.OK {
		return api.Rat{}, e
	}
	return Make(num, whole(den))
}
