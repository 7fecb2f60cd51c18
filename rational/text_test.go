package rational_test

import (
	"strings"
	"testing"

	"geoprover/api"
	"geoprover/rational"
)

// P3.5
func TestText(t *testing.T) {
	for _, x := range []struct {
		a    api.Rat
		want string
	}{
		{api.Rat{}, "0"},
		{raw(0, 1), "0"},
		{raw(0, 5), "0"},
		{raw(5, 0), "0"},
		{raw(12, 1), "12"},
		{raw(-12, 1), "-12"},
		{raw(-1, 2), "-1/2"},
		{raw(2, 4), "1/2"},
		{raw(-6, 3), "-2"},
		{raw(3, 2, 0), "3/2"},
		{raw(1, 0, 0, 0, 0, 1), "1/18446744073709551616"},
		{api.Rat{Num: api.Int{Neg: true, Abs: api.Nat{0}}, Den: api.Nat{7}}, "0"},
	} {
		if got := rational.Text(x.a); got != x.want {
			t.Errorf("Text(%v) = %q, want %q", x.a, got, x.want)
		}
	}
	r := newSource()
	for range rounds {
		a := randomRat(r, 6)
		if got, want := rational.Text(a), toBig(a).RatString(); got != want {
			t.Fatalf("Text(%v) = %q, want %q", a, got, want)
		}
	}
}

// P3.5
func TestRead(t *testing.T) {
	long := strings.Repeat("9", api.MaxDigits)
	for _, s := range []string{"0", "7", "-7", "0/7", "2/4", "-2/4", "6/3", "-6/3", "1/2", "7/1", "-18446744073709551616/3", long, "-" + long, "1/" + long, "-" + long + "/" + long[1:]} {
		if got, e := rational.Read(s); !same(got, number(s)) || e != api.OK {
			t.Errorf("Read(%s) = %v, %d", s, got, e)
		}
	}
}

// P3.5: the errors in their order.
func TestReadErrors(t *testing.T) {
	long := strings.Repeat("9", api.MaxDigits)
	for _, x := range []struct {
		s    string
		want api.Errno
	}{
		{"", api.ErrEnd},
		{"-", api.ErrEnd},
		{"/", api.ErrEnd},
		{"/2", api.ErrEnd},
		{"-/x", api.ErrEnd},
		{"1/", api.ErrEnd},
		{"x/", api.ErrForm},
		{"-0/", api.ErrForm},
		{"-0", api.ErrForm},
		{"+1/2", api.ErrForm},
		{"01/2", api.ErrForm},
		{"1/02", api.ErrForm},
		{"1/00", api.ErrForm},
		{"1/-2", api.ErrForm},
		{"1/+2", api.ErrForm},
		{"1/2/3", api.ErrForm},
		{"1//2", api.ErrForm},
		{"1 /2", api.ErrForm},
		{"1/ 2", api.ErrForm},
		{"1/2 ", api.ErrForm},
		{"1.5", api.ErrForm},
		{"1/0", api.ErrZero},
		{"0/0", api.ErrZero},
		{"-1/0", api.ErrZero},
		{"-0/0", api.ErrForm},
		{long + "9", api.ErrLarge},
		{long + "9/x", api.ErrLarge},
		{"1/" + long + "9", api.ErrLarge},
		{"1/-" + long, api.ErrLarge},
		{"x/" + long + "9", api.ErrForm},
		{"/" + long + "9", api.ErrEnd},
		{long + "9/0", api.ErrLarge},
	} {
		if got, e := rational.Read(x.s); !same(got, api.Rat{}) || e != x.want {
			t.Errorf("Read(%q) = %v, %d, want %d", x.s, got, e, x.want)
		}
	}
}
