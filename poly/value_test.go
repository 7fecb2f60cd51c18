package poly_test

import (
	"math"
	"math/big"
	"testing"

	"geoprover/api"
	"geoprover/poly"
)

// P6.7
func TestEval(t *testing.T) {
	for _, x := range []struct {
		p      api.Poly
		values string
		want   string
	}{
		{nil, "", "0"},
		{nil, "1 2", "0"},
		{read("-5/2"), "", "-5/2"},
		{read("-5/2"), "7", "-5/2"},
		{read("x"), "3", "3"},
		{read("x + 1"), "-1", "0"},
		{read("x^3 - 2*x + 1/2"), "-3/2", "1/8"},
		{read("x*y^2 - y + 3"), "1/2 4", "7"},
		{read("x*y^2 - y + 3"), "0 0", "3"},
		{read("x*y^2 - y + 3"), "1/2 4 9 9 9", "7"},
		{read("z - x"), "2 100 5", "3"},
		{read("z^5 + y^3*z^5 - x*z^2 + x^2*z^2 + y*x"), "2 3 -1", "-20"},
		{read("x^70 - y^64"), "1/2 0", "1/1180591620717411303424"},
	} {
		got, e := poly.Eval(x.p, numbers(x.values))
		if !sameRat(got, number(x.want)) || e != api.OK {
			t.Errorf("Eval(%v) with %s is %v, %d", x.p, x.values, got, e)
		}
	}
	for _, value := range []string{"1", "-1", "0"} { // 2^20 is even
		want := toBig(number(value))
		if got, e := poly.Eval(power(0, api.MaxExp), numbers(value)); !sameRat(got, fromBig(want.Abs(want))) || e != api.OK {
			t.Errorf("Eval of the power 2^20 of %s is %v, %d", value, got, e)
		}
	}
}

// P6.7: variables without values.
func TestEvalErrors(t *testing.T) {
	for _, x := range []struct {
		p      api.Poly
		values string
	}{
		{read("x"), ""},
		{read("y"), "1"},
		{read("x*y - x*y^2 + 1"), "0"},
		{read("w + x"), "1 2 3"},
		{power(api.MaxVars-1, 1), "1 2 3"},
	} {
		if got, e := poly.Eval(x.p, numbers(x.values)); !sameRat(got, api.Rat{}) || e != api.ErrRange {
			t.Errorf("Eval(%v) with %s is %v, %d", x.p, x.values, got, e)
		}
	}
}

// P6.7
func TestEvalRandom(t *testing.T) {
	r := newSource()
	for range rounds {
		p := randomPoly(r, 20, 5)
		values := make([]api.Rat, 4)
		for v := range values {
			values[v] = fromBig(randomCoef(r))
		}
		want := new(big.Rat)
		for key, coef := range toSum(p) {
			term := new(big.Rat).Set(coef)
			for v, n := range key {
				for range n {
					term.Mul(term, toBig(values[v]))
				}
			}
			want.Add(want, term)
		}
		if got, e := poly.Eval(p, values); !sameRat(got, fromBig(want)) || e != api.OK {
			t.Fatalf("Eval(%v) with %v is %v, %d", p, values, got, e)
		}
	}
}

// P6.7
func TestSubst(t *testing.T) {
	for _, x := range []struct {
		p    api.Poly
		v    int
		q    api.Poly
		want api.Poly
	}{
		{read("y^2 + x"), 1, read("x + 1"), read("x^2 + 3*x + 1")},
		{read("y^2 + x"), 0, read("x + 1"), read("y^2 + x + 1")},
		{read("y^2 + x"), 2, read("x + 1"), read("y^2 + x")},
		{read("y^2 + x"), api.MaxVars - 1, nil, read("y^2 + x")},
		{read("y^2 + x"), 1, nil, read("x")},
		{read("y^2 + x"), 1, read("y"), read("y^2 + x")},
		{read("x*y"), 0, read("y"), read("y^2")},
		{read("x^2*z + 1/2*x*y*z - z^3 + 5"), 2, read("2*x - y"), read("-6*x^3 + 12*x^2*y - 13/2*x*y^2 + y^3 + 5")},
		{read("x^5 - 1"), 0, read("-1"), read("-2")},
		{nil, 3, read("x"), nil},
		{read("7"), 0, read("x"), read("7")},
		{power(0, api.MaxTerms), 0, read("y"), power(1, api.MaxTerms)},
		{power(0, 2), 0, power(1, api.MaxExp/2), power(1, api.MaxExp)},
		{power(1, api.MaxExp), 0, power(0, api.MaxExp), power(1, api.MaxExp)},
	} {
		got, e := poly.Subst(x.p, x.v, x.q)
		expect(t, "Subst", got, x.want)
		if e != api.OK {
			t.Errorf("Subst in %v: %d", x.p, e)
		}
	}
}

// P6.7: only the polynomials s count, not p, nor a product s q.
func TestSubstLimit(t *testing.T) {
	// The product of x^3999 + .. + 1 and x + 1 has 4001 terms, and one less without its constant.
	p := poly.Sub(poly.Mul(dense(api.MaxTerms), read("y")), read("1"))
	got, e := poly.Subst(p, 1, read("x + 1"))
	want := poly.Sub(poly.Add(poly.Mul(dense(api.MaxTerms), read("x")), dense(api.MaxTerms)), read("1"))
	expect(t, "Subst", got, want)
	if e != api.OK || len(p) != api.MaxTerms+1 || len(want) != api.MaxTerms {
		t.Errorf("Subst: %d", e)
	}
}

// P6.7
func TestSubstErrors(t *testing.T) {
	many := dense(api.MaxTerms + 1)
	manyTimesY := poly.Mul(many, read("y"))
	for what, x := range map[string]struct {
		p    api.Poly
		v    int
		q    api.Poly
		want api.Errno
	}{
		"variable -1":              {read("x"), -1, nil, api.ErrRange},
		"variable MaxVars":         {read("x"), api.MaxVars, nil, api.ErrRange},
		"least variable":           {read("x"), math.MinInt, nil, api.ErrRange},
		"range before terms":       {many, math.MaxInt, nil, api.ErrRange},
		"degree":                   {power(0, api.MaxTerms+1), 0, read("y"), api.ErrLarge},
		"degree, small result":     {power(0, api.MaxTerms+1), 0, read("1"), api.ErrLarge},
		"coefficient of y^0":       {many, 1, nil, api.ErrLarge},
		"first s, small result":    {poly.Add(manyTimesY, read("1")), 1, nil, api.ErrLarge},
		"second s, small result":   {poly.Add(read("y^2"), manyTimesY), 1, nil, api.ErrLarge},
		"result":                   {read("y + x"), 1, many, api.ErrLarge},
		"exponent":                 {power(0, 2), 0, power(1, api.MaxExp/2+1), api.ErrLarge},
		"exponent in the middle":   {poly.Mul(power(1, api.MaxExp), read("x + 1")), 0, read("x + y"), api.ErrLarge},
		"exponent, not the degree": {poly.Mul(power(1, api.MaxExp), read("x")), 0, read("x*y"), api.ErrLarge},
	} {
		got, e := poly.Subst(x.p, x.v, x.q)
		expectError(t, "Subst: "+what, got, e, x.want)
	}
}
