package poly_test

import (
	"math"
	"testing"

	"geoprover/api"
	"geoprover/poly"
)

// P6.4
func TestOperations(t *testing.T) {
	for _, x := range []struct{ p, q, sum, difference, product api.Poly }{
		{nil, nil, nil, nil, nil},
		{nil, read("x"), read("x"), read("-x"), nil},
		{read("x + y"), read("x - y"), read("2*x"), read("2*y"), read("-y^2 + x^2")},
		{read("x + y"), read("x + y"), read("2*x + 2*y"), nil, read("x^2 + 2*x*y + y^2")},
		{read("x + y"), read("-x - y"), nil, read("2*x + 2*y"), read("-x^2 - 2*x*y - y^2")},
		{read("1/2*x - 1/3"), read("1/2*x + 1/3"), read("x"), read("-2/3"), read("1/4*x^2 - 1/9")},
		{read("x^2 + x + 1"), read("x - 1"), read("x^2 + 2*x"), read("x^2 + 2"), read("x^3 - 1")},
		{read("-2/3*z"), read("3/2"), read("-2/3*z + 3/2"), read("-2/3*z - 3/2"), read("-z")},
		{read("x*w + y*z"), read("x*w - y*z"), read("2*x*w"), read("2*y*z"), read("x^2*w^2 - y^2*z^2")},
	} {
		expect(t, "Add", poly.Add(x.p, x.q), x.sum)
		expect(t, "Sub", poly.Sub(x.p, x.q), x.difference)
		expect(t, "Mul", poly.Mul(x.p, x.q), x.product)
		expect(t, "Mul", poly.Mul(x.q, x.p), x.product)
	}
}

// P6.4
func TestNegScale(t *testing.T) {
	for _, x := range []struct {
		p      api.Poly
		factor api.Rat
		want   api.Poly
	}{
		{nil, number("3"), nil},
		{read("x - 2*y + 1/3"), number("3"), read("3*x - 6*y + 1")},
		{read("x - 2*y + 1/3"), number("-1/2"), read("-1/2*x + y - 1/6")},
		{read("x - 2*y"), number("1"), read("x - 2*y")},
		{read("x - 2*y"), number("-1"), read("2*y - x")},
		{read("x - 2*y"), number("0"), nil},
	} {
		expect(t, "Scale", poly.Scale(x.p, x.factor), x.want)
	}
	expect(t, "Neg", poly.Neg(read("x - 2/3*y + 1")), read("2/3*y - x - 1"))
	expect(t, "Neg", poly.Neg(nil), nil)
}

// P6.4
func TestOperationsRandom(t *testing.T) {
	r := newSource()
	for range rounds {
		p, q := randomPoly(r, 20, 3), randomPoly(r, 20, 3)
		a, b, coef := toSum(p), toSum(q), randomCoef(r)
		expect(t, "Add", poly.Add(p, q), a.plus(b, 1).poly())
		expect(t, "Sub", poly.Sub(p, q), a.plus(b, -1).poly())
		expect(t, "Mul", poly.Mul(p, q), a.times(b).poly())
		expect(t, "Neg", poly.Neg(p), sum{}.plus(a, -1).poly())
		expect(t, "Scale", poly.Scale(p, fromBig(coef)), a.times(sum{{}: coef}).poly())
	}
}

// P6.4: large results are exact.
func TestLargeResults(t *testing.T) {
	half := dense(api.MaxTerms)
	if got := poly.Add(poly.Mul(half, power(1, 1)), half); len(got) != 2*api.MaxTerms || !poly.Right(got) {
		t.Errorf("Add returns %d terms", len(got))
	}
	if got := poly.Mul(half, read("y + z + 1")); len(got) != 3*api.MaxTerms || !poly.Right(got) {
		t.Errorf("Mul returns %d terms", len(got))
	}
	large := poly.Mul(power(1, api.MaxExp), read("x*y^2 + x"))
	want := api.Poly{{Coef: number("1"), Mono: api.Mono{1, api.MaxExp + 2}}, {Coef: number("1"), Mono: api.Mono{1, api.MaxExp}}}
	if !same(large, want) || poly.Right(large) {
		t.Errorf("Mul returns %v", large)
	}
}

// P6.5
func TestPow(t *testing.T) {
	for _, x := range []struct {
		p    api.Poly
		n    int
		want api.Poly
	}{
		{nil, 0, read("1")},
		{nil, 1, nil},
		{nil, api.MaxTerms, nil},
		{read("x + y"), 0, read("1")},
		{read("x + y"), 1, read("x + y")},
		{read("x + y"), 2, read("x^2 + 2*x*y + y^2")},
		{read("1/2*x - 1"), 3, read("1/8*x^3 - 3/4*x^2 + 3/2*x - 1")},
		{read("-x"), 7, read("-x^7")},
		{power(5, 3), api.MaxTerms, power(5, 3*api.MaxTerms)},
		{power(0, api.MaxExp/4), 4, power(0, api.MaxExp)},
		{dense(api.MaxTerms), 1, dense(api.MaxTerms)},
		{dense(api.MaxTerms + 1), 0, read("1")},
	} {
		got, e := poly.Pow(x.p, x.n)
		expect(t, "Pow", got, x.want)
		if e != api.OK {
			t.Errorf("Pow with the exponent %d: %d", x.n, e)
		}
	}
}

// P6.5: the power n of x + y + z + w + 1 has (n + 4 over 4) terms, 3876 for 15 and 4845 for 16.
func TestPowTerms(t *testing.T) {
	p := read("x + y + z + w + 1")
	if got, e := poly.Pow(p, 15); len(got) != 3876 || e != api.OK {
		t.Errorf("the power 15 has %d terms, and the error %d", len(got), e)
	}
	for n := 16; n < 20; n++ {
		got, e := poly.Pow(p, n)
		expectError(t, "Pow", got, e, api.ErrLarge)
	}
}

// P6.5
func TestPowErrors(t *testing.T) {
	many := dense(api.MaxTerms + 1)
	for _, x := range []struct {
		p    api.Poly
		n    int
		want api.Errno
	}{
		{nil, -1, api.ErrRange},
		{nil, api.MaxTerms + 1, api.ErrRange},
		{read("x"), math.MinInt, api.ErrRange},
		{read("x"), math.MaxInt, api.ErrRange},
		{many, -1, api.ErrRange},
		{many, api.MaxTerms + 1, api.ErrRange},
		{many, 1, api.ErrLarge},
		{many, api.MaxTerms, api.ErrLarge},
		{power(0, api.MaxExp), 2, api.ErrLarge},
		{power(0, api.MaxExp/4), 5, api.ErrLarge},
		{power(0, api.MaxExp/4), api.MaxTerms, api.ErrLarge},
	} {
		got, e := poly.Pow(x.p, x.n)
		expectError(t, "Pow", got, e, x.want)
	}
}
