package natural

import "geoprover/api"

// maxShift is the greatest number of bits by which Shift shifts.
const maxShift = 1 << 20

// Shift returns a 2^n, rounded down; it returns 0 if n is less than -2^20 or greater than 2^20.
func Shift(a api.Nat, n int) api.Nat {
	switch {
	case n < -maxShift || n > maxShift:
		return nil
	case n < 0:
		return shiftRight(a, -n)
	}
	return shiftLeft(a, n)
}

// shiftLeft returns a 2^n for an n that is not negative.
func shiftLeft(a api.Nat, n int) api.Nat {
	a = trim(a)
	if len(a) == 0 {
		return nil
	}
	limbs, places := n/limbBits, n%limbBits
	s := make(api.Nat, limbs+len(a)+1)
	for i, limb := range a {
		wide := uint32(limb) << places
		s[limbs+i] |= uint16(wide)
		s[limbs+i+1] = uint16(wide >> limbBits)
	}
	return trim(s)
}

// shiftRight returns a / 2^n, rounded down, for an n that is not negative.
func shiftRight(a api.Nat, n int) api.Nat {
	a = trim(a)
	limbs, places := n/limbBits, n%limbBits
	if limbs >= len(a) {
		return nil
	}
	s := clone(a[limbs:])
	for i := range s {
		wide := uint32(s[i])
		if i+1 < len(s) {
			wide |= uint32(s[i+1]) << limbBits
		}
		s[i] = uint16(wide >> places)
	}
	return trim(s)
}
