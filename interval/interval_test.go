package interval_test

import (
	"testing"

	"geoprover/api"
	"geoprover/interval"
	"geoprover/rational"
)

// notValid returns Rats that are not valid.
func notValid() []api.Rat {
	two := api.Int{Abs: api.Nat{2}}
	return []api.Rat{
		{},
		{Num: two},
		{Num: two, Den: api.Nat{0}},
		{Num: two, Den: api.Nat{4}},
		{Num: two, Den: api.Nat{1, 0}},
		{Num: api.Int{Neg: true}, Den: api.Nat{1}},
		{Num: api.Int{Abs: api.Nat{2, 0}}, Den: api.Nat{1}},
	}
}

// P4.1
func TestRight(t *testing.T) {
	for s, want := range map[string]bool{"0": true, "1 2": true, "-1/2 1/3": true, "-2 -1": true, "5/3": true, "2 1": false, "-1 -2": false, "1/2 1/3": false, "1 -1": false} {
		if got := interval.Right(span(s)); got != want {
			t.Errorf("Right(%s) = %v", s, got)
		}
	}
	for _, a := range notValid() {
		if interval.Right(api.Interval{Lo: a, Hi: number("3")}) || interval.Right(api.Interval{Lo: number("-3"), Hi: a}) || interval.Right(api.Interval{Lo: a, Hi: a}) {
			t.Errorf("an interval with the end point %v is right", a)
		}
	}
}

// P4.1
func TestMake(t *testing.T) {
	for _, s := range []string{"0", "1 2", "-1/2 1/3", "-2 -1", "5/3"} {
		got, e := interval.Make(span(s).Lo, span(s).Hi)
		expect(t, "Make of "+s, got, span(s))
		if e != api.OK {
			t.Errorf("Make of %s: %d", s, e)
		}
	}
	for _, s := range []string{"2 1", "-1 -2", "1/2 1/3", "1 -1"} {
		got, e := interval.Make(span(s).Lo, span(s).Hi)
		expectError(t, "Make of "+s, got, e, api.ErrOrder)
	}
}

// P4.1: ErrArg comes before ErrOrder.
func TestMakeNotValid(t *testing.T) {
	for _, a := range notValid() {
		for _, other := range []api.Rat{a, number("-3"), number("3")} {
			got, e := interval.Make(a, other)
			expectError(t, "Make with a first end point that is not valid", got, e, api.ErrArg)
			got, e = interval.Make(other, a)
			expectError(t, "Make with a second end point that is not valid", got, e, api.ErrArg)
		}
	}
}

// P4.1
func TestPoint(t *testing.T) {
	for _, s := range []string{"0", "-7", "2/3"} {
		expect(t, "Point of "+s, interval.Point(number(s)), span(s))
	}
}

// P4.2
func TestHas(t *testing.T) {
	for _, x := range []struct {
		a, x string
		want bool
	}{
		{"1 2", "1", true},
		{"1 2", "2", true},
		{"1 2", "3/2", true},
		{"1 2", "999/1000", false},
		{"1 2", "2001/1000", false},
		{"1 2", "-3/2", false},
		{"-1/2 1/3", "0", true},
		{"-1/2 1/3", "-1/2", true},
		{"5/3", "5/3", true},
		{"5/3", "5/4", false},
		{"5/3", "2", false},
		{"0", "0", true},
	} {
		if got := interval.Has(span(x.a), number(x.x)); got != x.want {
			t.Errorf("Has(%s, %s) = %v", x.a, x.x, got)
		}
	}
}

// P4.2
func TestMeet(t *testing.T) {
	for _, x := range []struct{ a, b, want string }{
		{"1 3", "2 4", "2 3"},
		{"1 4", "2 3", "2 3"},
		{"1 3", "1 3", "1 3"},
		{"1 3", "3 4", "3"},
		{"-1/2 0", "0 1/2", "0"},
		{"2", "1 3", "2"},
		{"2", "2", "2"},
		{"1 2", "3 4", ""},
		{"1 2", "2001/1000 4", ""},
		{"-2 -1", "1 2", ""},
		{"2", "3", ""},
	} {
		for _, args := range [][2]string{{x.a, x.b}, {x.b, x.a}} {
			got, ok := interval.Meet(span(args[0]), span(args[1]))
			if x.want != "" && ok {
				expect(t, "Meet of "+args[0]+" and "+args[1], got, span(x.want))
			} else if ok != (x.want != "") || !same(got, api.Interval{}) {
				t.Errorf("Meet of %s and %s is %v, %v", args[0], args[1], got, ok)
			}
		}
	}
}

// P4.2
func TestHull(t *testing.T) {
	for _, x := range []struct{ a, b, want string }{
		{"1 3", "2 4", "1 4"},
		{"1 4", "2 3", "1 4"},
		{"1 2", "3 4", "1 4"},
		{"-1/2", "1/3", "-1/2 1/3"},
		{"2", "2", "2"},
		{"-4 -3", "-3 -2", "-4 -2"},
	} {
		expect(t, "Hull of "+x.a+" and "+x.b, interval.Hull(span(x.a), span(x.b)), span(x.want))
		expect(t, "Hull of "+x.b+" and "+x.a, interval.Hull(span(x.b), span(x.a)), span(x.want))
	}
}

// P4.2: what is in the Meet is in both, and what is in one of them is in the Hull.
func TestMeetHullRandom(t *testing.T) {
	r := newSource()
	for range rounds {
		a, b := randomInterval(r), randomInterval(r)
		meet, ok := interval.Meet(a, b)
		hull := interval.Hull(a, b)
		for _, x := range append(inside(r, a), inside(r, b)...) {
			inBoth := interval.Has(a, x) && interval.Has(b, x)
			if inBoth != (ok && interval.Has(meet, x)) || !interval.Has(hull, x) {
				t.Fatalf("%s and %s: Meet %s, %v, Hull %s, and %s", show(a), show(b), show(meet), ok, show(hull), rational.Text(x))
			}
		}
	}
}

// P4.2
func TestSign(t *testing.T) {
	for _, x := range []struct {
		a     string
		sign  int
		known bool
	}{
		{"0", 0, true},
		{"1/2 3", 1, true},
		{"7", 1, true},
		{"-3 -1/2", -1, true},
		{"-7", -1, true},
		{"0 1", 0, false},
		{"-1 0", 0, false},
		{"-1 1", 0, false},
	} {
		if sign, known := interval.Sign(span(x.a)); sign != x.sign || known != x.known {
			t.Errorf("Sign(%s) = %d, %v", x.a, sign, known)
		}
	}
}
