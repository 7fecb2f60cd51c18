package interval_test

import (
	"testing"

	"geoprover/api"
	"geoprover/interval"
	"geoprover/rational"
)

// P4.3
func TestSums(t *testing.T) {
	for _, x := range []struct{ a, b, sum, rest string }{
		{"1 2", "3 5", "4 7", "-4 -1"},
		{"-1 2", "-3 1/2", "-4 5/2", "-3/2 5"},
		{"0", "-1/3 1/2", "-1/3 1/2", "-1/2 1/3"},
		{"2", "3", "5", "-1"},
		{"1 2", "1 2", "2 4", "-1 1"},
	} {
		expect(t, "Add of "+x.a+" and "+x.b, interval.Add(span(x.a), span(x.b)), span(x.sum))
		expect(t, "Sub of "+x.a+" and "+x.b, interval.Sub(span(x.a), span(x.b)), span(x.rest))
	}
}

// P4.3: all signs of the end points.
func TestMul(t *testing.T) {
	for _, x := range []struct{ a, b, want string }{
		{"1 2", "3 4", "3 8"},
		{"-1 2", "3 4", "-4 8"},
		{"-2 -1", "3 4", "-8 -3"},
		{"1 2", "-3 4", "-6 8"},
		{"-1 2", "-3 4", "-6 8"},
		{"-5 2", "-3 4", "-20 15"},
		{"-2 -1", "-3 4", "-8 6"},
		{"1 2", "-4 -3", "-8 -3"},
		{"-1 2", "-4 -3", "-8 4"},
		{"-2 -1", "-4 -3", "3 8"},
		{"0", "-4 3", "0"},
		{"0 1", "-4 3", "-4 3"},
		{"-1/2 0", "0 2/3", "-1/3 0"},
		{"3", "5", "15"},
	} {
		expect(t, "Mul of "+x.a+" and "+x.b, interval.Mul(span(x.a), span(x.b)), span(x.want))
		expect(t, "Mul of "+x.b+" and "+x.a, interval.Mul(span(x.b), span(x.a)), span(x.want))
	}
}

// P4.3
func TestDiv(t *testing.T) {
	for _, x := range []struct{ a, b, want string }{
		{"1 2", "3 4", "1/4 2/3"},
		{"-1 2", "3 4", "-1/3 2/3"},
		{"-2 -1", "3 4", "-2/3 -1/4"},
		{"1 2", "-4 -3", "-2/3 -1/4"},
		{"-1 2", "-4 -3", "-2/3 1/3"},
		{"-2 -1", "-4 -3", "1/4 2/3"},
		{"0", "-4 -3", "0"},
		{"0 1", "1/2", "0 2"},
		{"6", "-4", "-3/2"},
	} {
		got, e := interval.Div(span(x.a), span(x.b))
		expect(t, "Div of "+x.a+" and "+x.b, got, span(x.want))
		if e != api.OK {
			t.Errorf("Div of %s and %s: %d", x.a, x.b, e)
		}
	}
	for _, b := range []string{"0", "0 1", "-1 0", "-1 1", "-1/1000 5"} {
		got, e := interval.Div(span("1 2"), span(b))
		expectError(t, "Div by "+b, got, e, api.ErrZero)
	}
}

// P4.3
func TestSquare(t *testing.T) {
	for s, want := range map[string]string{"-1 2": "0 4", "-3 2": "0 9", "-2 2": "0 4", "1 2": "1 4", "-2 -1/2": "1/4 4", "0 3": "0 9", "-3 0": "0 9", "0": "0", "-2/3": "4/9"} {
		expect(t, "Square of "+s, interval.Square(span(s)), span(want))
	}
}

// operation is an operation of two intervals, and the same one of two numbers.
type operation struct {
	name    string
	spans   func(a, b api.Interval) (api.Interval, bool)
	numbers func(x, y api.Rat) api.Rat
}

// operations returns the operations of P4.3.
func operations() []operation {
	plain := func(f func(a, b api.Interval) api.Interval) func(a, b api.Interval) (api.Interval, bool) {
		return func(a, b api.Interval) (api.Interval, bool) { return f(a, b), true }
	}
	return []operation{
		{"Add", plain(interval.Add), rational.Add},
		{"Sub", plain(interval.Sub), rational.Sub},
		{"Mul", plain(interval.Mul), rational.Mul},
		{"Square", plain(func(a, b api.Interval) api.Interval { return interval.Square(a) }), func(x, y api.Rat) api.Rat { return rational.Mul(x, x) }},
		{"Div", func(a, b api.Interval) (api.Interval, bool) {
			q, e := interval.Div(a, b)
			return q, e == api.OK
		}, func(x, y api.Rat) api.Rat {
			q, _ := rational.Div(x, y)
			return q
		}},
	}
}

// P4.3, P4.6: a result contains the results for all numbers, and its ends are such results: those for end points, or the square of 0.
func TestResults(t *testing.T) {
	r := newSource()
	for range rounds {
		a, b := randomInterval(r), randomInterval(r)
		for _, o := range operations() {
			got, ok := o.spans(a, b)
			if !ok {
				if !interval.Has(b, rational.Of(0)) {
					t.Fatalf("%s of %s and %s fails", o.name, show(a), show(b))
				}
				continue
			}
			lowest, highest := false, false
			xs, ys := inside(r, a), inside(r, b)
			if interval.Has(a, rational.Of(0)) {
				xs = append(xs, rational.Of(0))
			}
			for _, x := range xs {
				for _, y := range ys {
					z := o.numbers(x, y)
					if !interval.Has(got, z) {
						t.Fatalf("%s of %s and %s is %s, without %s", o.name, show(a), show(b), show(got), rational.Text(z))
					}
					lowest = lowest || sameRat(z, got.Lo)
					highest = highest || sameRat(z, got.Hi)
				}
			}
			if !lowest || !highest || !interval.Right(got) {
				t.Fatalf("%s of %s and %s is %s, which is too wide", o.name, show(a), show(b), show(got))
			}
		}
	}
}

// P4.6: if a is a part of another interval, so is the result.
func TestParts(t *testing.T) {
	r := newSource()
	for range rounds {
		a, b := randomInterval(r), randomInterval(r)
		for _, o := range operations() {
			wide, ok := o.spans(a, b)
			narrow, _ := o.spans(part(r, a), part(r, b))
			if ok && !isPart(narrow, wide) {
				t.Fatalf("%s of parts of %s and %s is %s, not a part of %s", o.name, show(a), show(b), show(narrow), show(wide))
			}
		}
		if !isPart(interval.Square(a), interval.Mul(a, a)) {
			t.Fatalf("Square of %s is not a part of Mul", show(a))
		}
	}
}
