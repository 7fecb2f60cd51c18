package natural

import (
	"math/bits"
	"strconv"

	"geoprover/api"
)

// Texts are converted in groups of decimal digits, as many as a word holds for sure.
const (
	groupDigits = 19
	groupBase   = 10_000_000_000_000_000_000
)

// Text returns the decimal numeral of a.
func Text(a api.Nat) string {
	a = trim(a)
	if len(a) <= wordLimbs {
		return strconv.FormatUint(word(a), 10)
	}
	w := pack(a)
	text := make([]byte, (groupDigits+1)*len(w)) // a word has at most 20 digits
	at := len(text)
	for len(w) > 0 {
		group := divideByWord(w, groupBase)
		w = trim(w)
		first := at - groupDigits
		for group > 0 || len(w) > 0 && at > first { // only the first group goes without leading zeros
			at--
			text[at] = byte('0' + group%10)
			group /= 10
		}
	}
	return string(text[at:])
}

// Read returns the number with the numeral s. It returns the first of these errors: ErrEnd if s is empty; ErrLarge if s has more than MaxDigits bytes; ErrForm if s is no numeral.
func Read(s string) (api.Nat, api.Errno) {
	switch {
	case s == "":
		return nil, api.ErrEnd
	case len(s) > api.MaxDigits:
		return nil, api.ErrLarge
	case !isNumeral(s):
		return nil, api.ErrForm
	}
	var w []uint64
	for len(s) > 0 {
		end := (len(s)-1)%groupDigits + 1 // only the first group is shorter than the others
		group, _ := strconv.ParseUint(s[:end], 10, 64)
		w = appendGroup(w, group)
		s = s[end:]
	}
	return unpack(w), api.OK
}

// isNumeral reports whether s, which is not empty, consists of digits and, if it has several, does not begin with 0.
func isNumeral(s string) bool {
	for i := range len(s) {
		if s[i] < '0' || s[i] > '9' {
			return false
		}
	}
	return len(s) == 1 || s[0] != '0'
}

// appendGroup replaces the words w by w groupBase + group.
func appendGroup(w []uint64, group uint64) []uint64 {
	carry := group
	for i, x := range w {
		high, low := bits.Mul64(x, groupBase)
		low, c := bits.Add64(low, carry, 0)
		w[i], carry = low, high+c
	}
	return append(w, carry)
}
