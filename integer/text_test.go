package integer_test

import (
	"math/big"
	"strings"
	"testing"

	"geoprover/api"
	"geoprover/integer"
)

// P2.5
func TestText(t *testing.T) {
	for _, x := range []struct {
		a    api.Int
		want string
	}{
		{api.Int{}, "0"},
		{api.Int{Neg: true}, "0"},
		{api.Int{Neg: true, Abs: api.Nat{0, 0}}, "0"},
		{small(12), "12"},
		{small(-12), "-12"},
		{api.Int{Neg: true, Abs: api.Nat{0, 1, 0}}, "-65536"},
		{api.Int{Neg: true, Abs: api.Nat{0, 0, 0, 0, 1}}, "-18446744073709551616"},
	} {
		if got := integer.Text(x.a); got != x.want {
			t.Errorf("Text(%v) = %q, want %q", x.a, got, x.want)
		}
	}
}

// P2.5
func TestRead(t *testing.T) {
	long := strings.Repeat("9", api.MaxDigits)
	for _, s := range []string{"0", "7", "-7", "10", "-10", "65536", "-18446744073709551616", long, "-" + long} {
		want, _ := new(big.Int).SetString(s, 10)
		if got, e := integer.Read(s); !same(got, fromBig(want)) || e != api.OK {
			t.Errorf("Read(%s) = %v, %d", s, got, e)
		}
	}
}

// P2.5: the errors in their order.
func TestReadErrors(t *testing.T) {
	long := strings.Repeat("9", api.MaxDigits)
	for _, x := range []struct {
		s    string
		want api.Errno
	}{
		{"", api.ErrEnd},
		{"-", api.ErrEnd},
		{long + "9", api.ErrLarge},
		{"-" + long + "9", api.ErrLarge},
		{"-x" + long, api.ErrLarge},
		{"--" + long, api.ErrLarge},
		{"-" + long[1:] + "x", api.ErrForm},
		{"-0", api.ErrForm},
		{"-00", api.ErrForm},
		{"00", api.ErrForm},
		{"-012", api.ErrForm},
		{"--1", api.ErrForm},
		{"+1", api.ErrForm},
		{"-+1", api.ErrForm},
		{"- 1", api.ErrForm},
		{" -1", api.ErrForm},
		{"-1 ", api.ErrForm},
		{"1-", api.ErrForm},
		{"-1/2", api.ErrForm},
		{"-a", api.ErrForm},
		{"\u22121", api.ErrForm}, // a minus sign, but not that of ASCII
	} {
		if got, e := integer.Read(x.s); !same(got, api.Int{}) || e != x.want {
			t.Errorf("Read(%q) = %v, %d, want %d", x.s, got, e, x.want)
		}
	}
}

// P2.6: Read of Text is the number.
func TestReadText(t *testing.T) {
	r := newSource()
	for range rounds {
		a := randomInt(r, 100)
		if got, e := integer.Read(integer.Text(a)); !same(got, integer.Norm(a)) || e != api.OK {
			t.Fatalf("Read of Text of %v is %v, %d", a, got, e)
		}
	}
}
