package natural_test

import (
	"strings"
	"testing"

	"geoprover/api"
	"geoprover/natural"
)

// P1.7
func TestText(t *testing.T) {
	for _, x := range []struct {
		a    api.Nat
		want string
	}{
		{nil, "0"},
		{api.Nat{0, 0}, "0"},
		{api.Nat{7, 0}, "7"},
		{api.Nat{0, 0, 1}, "4294967296"},
		{api.Nat{65535, 65535, 65535, 65535}, "18446744073709551615"},
		{api.Nat{0, 0, 0, 0, 1, 0}, "18446744073709551616"},
		{decimal("1" + strings.Repeat("0", 19)), "1" + strings.Repeat("0", 19)},
		{decimal("1" + strings.Repeat("0", 38)), "1" + strings.Repeat("0", 38)},
		{decimal("5" + strings.Repeat("0", 40) + "6"), "5" + strings.Repeat("0", 40) + "6"},
		{decimal(strings.Repeat("9", 57)), strings.Repeat("9", 57)},
	} {
		if got := natural.Text(x.a); got != x.want {
			t.Errorf("Text(%v) = %q, want %q", x.a, got, x.want)
		}
	}
	r := newSource()
	for range rounds {
		a := randomNat(r, 40)
		if got, want := natural.Text(a), toBig(a).String(); got != want {
			t.Fatalf("Text(%v) = %s, want %s", a, got, want)
		}
	}
}

// P1.7
func TestRead(t *testing.T) {
	long := strings.Repeat("9", api.MaxDigits)
	for _, s := range []string{"0", "7", "10", "65536", "4294967296", "18446744073709551615", "18446744073709551616",
		strings.Repeat("1234567890", 7), "1" + strings.Repeat("0", 19), "1" + strings.Repeat("0", 38), long} {
		if got, e := natural.Read(s); !same(got, decimal(s)) || e != api.OK {
			t.Errorf("Read(%s) = %v, %d", s, got, e)
		}
	}
}

// P1.7: the errors in their order.
func TestReadErrors(t *testing.T) {
	long := strings.Repeat("9", api.MaxDigits)
	for _, x := range []struct {
		s    string
		want api.Errno
	}{
		{"", api.ErrEnd},
		{long + "9", api.ErrLarge},
		{"0" + long, api.ErrLarge},
		{"x" + long, api.ErrLarge},
		{long[1:] + "x", api.ErrForm},
		{"0" + long[1:], api.ErrForm},
		{"00", api.ErrForm},
		{"007", api.ErrForm},
		{"-1", api.ErrForm},
		{"+1", api.ErrForm},
		{"-0", api.ErrForm},
		{" 1", api.ErrForm},
		{"1 ", api.ErrForm},
		{"1\n", api.ErrForm},
		{"1_000", api.ErrForm},
		{"1.0", api.ErrForm},
		{"1e3", api.ErrForm},
		{"0x1", api.ErrForm},
		{"a", api.ErrForm},
		{"/", api.ErrForm},
		{":", api.ErrForm},
		{"\x00", api.ErrForm},
		{"\xff", api.ErrForm},
		{"\u0663", api.ErrForm}, // a digit, but not a decimal one of ASCII
	} {
		if got, e := natural.Read(x.s); len(got) != 0 || e != x.want {
			t.Errorf("Read(%q) = %v, %d, want %d", x.s, got, e, x.want)
		}
	}
}

// P1.8: Read of Text is the number.
func TestReadText(t *testing.T) {
	r := newSource()
	for range rounds {
		a := randomNat(r, 200)
		if got, e := natural.Read(natural.Text(a)); !same(got, natural.Norm(a)) || e != api.OK {
			t.Fatalf("Read of Text of %v is %v, %d", a, got, e)
		}
	}
}
