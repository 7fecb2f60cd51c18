package pseudo_test

import (
	"math"
	"slices"
	"testing"

	"geoprover/api"
	"geoprover/poly"
	"geoprover/pseudo"
)

// P8.3
func TestDivide(t *testing.T) {
	for _, x := range []struct {
		f, g  string
		v     int
		q, r  string
		power int
	}{
		{"y^2*x", "2*y + x", 1, "2*x*y - x^2", "x^3", 2},
		{"0", "x", 0, "0", "0", 0},
		{"0", "5", 0, "0", "0", 0},
		{"3", "5", 0, "3", "0", 1},
		{"x", "5", 0, "x", "0", 1},
		{"x", "5", 1, "x", "0", 1},
		{"x^2 + x + 1", "2", 0, "4*x^2 + 4*x + 4", "0", 3},
		{"x^2 + x*y + 1", "y", 0, "x^2*y^2 + x*y^3 + y^2", "0", 3},
		{"x", "x^2", 0, "0", "x", 0},
		{"y", "x", 0, "0", "y", 0},
		{"y", "x", 1, "y", "0", 1},
		{"y", "x", 2, "y", "0", 1},
		{"x^2 - 1", "x - 1", 0, "x + 1", "0", 2},
		{"x^2 - 1", "x^2 - 1", 0, "1", "0", 1},
		{"x^4", "x^2 + 1", 0, "x^2 - 1", "1", 2},
		{"x^4 + x", "1/2*x^2 - 1", 0, "1/2*x^2 + 1", "1/4*x + 1", 2},
		{"y^2", "x*y - 1", 1, "x*y + 1", "1", 2},
		{"x^2*y - 1", "y^2*x + 1", 0, "x*y^3 - y", "-y^4 + y", 2},
		{"x^3 + z", "x^3 - z*x - y", 0, "1", "z*x + y + z", 1},
	} {
		q, r, power, e := pseudo.Divide(read(x.f), read(x.g), x.v)
		expect(t, "the quotient of "+x.f+" and "+x.g, q, read(x.q))
		expect(t, "the rest of "+x.f+" and "+x.g, r, read(x.r))
		if power != x.power || e != api.OK {
			t.Errorf("Divide of %s and %s has the power %d and the error %d", x.f, x.g, power, e)
		}
	}
}

// expectError fails unless Divide returns the error want alone.
func expectError(t *testing.T, what string, f, g api.Poly, v int, want api.Errno) {
	t.Helper()
	q, r, power, e := pseudo.Divide(f, g, v)
	if len(q) > 0 || len(r) > 0 || power != 0 || e != want {
		t.Errorf("Divide (%s) returns %s, %s, %d, %d, want the error %d", what, text(q), text(r), power, e, want)
	}
}

// P8.3: the errors in their order.
func TestDivideErrors(t *testing.T) {
	many := dense(0, api.MaxTerms)
	for _, v := range []int{-1, api.MaxVars, math.MinInt, math.MaxInt} {
		expectError(t, "variable", read("x"), read("x"), v, api.ErrRange)
		expectError(t, "variable before 0", many, nil, v, api.ErrRange)
	}
	expectError(t, "0", read("x"), nil, 0, api.ErrZero)
	expectError(t, "0 by 0", nil, nil, api.MaxVars-1, api.ErrZero)
	expectError(t, "0 before large", many, api.Poly{}, 0, api.ErrZero)
	expectError(t, "f", many, read("y"), 1, api.ErrLarge)
	expectError(t, "f, small result", many, read("1"), 0, api.ErrLarge)
}

// P8.3: large quotients and rests, and the limits themselves.
func TestDivideLimits(t *testing.T) {
	great, less := power(0, api.MaxExp), power(0, api.MaxExp-1)
	long := dense(1, api.MaxTerms)
	between := func(n int) (f, g api.Poly) { // f / g = y + d + 1, but the first rest is (d + 1)(y - d) with 3 n + 1 terms
		d := dense(1, n)
		g = poly.Sub(read("y"), d)
		return product(sum(read("y + 1"), d), g), g
	}
	f, g := between(api.MaxTerms / 3)
	largeF, largeG := between(api.MaxTerms/3 + 1)
	for what, x := range map[string]struct {
		f, g api.Poly
		v    int
		want api.Errno
	}{
		"terms of q":                    {power(0, api.MaxTerms), read("x - 1"), 0, api.OK},
		"too many terms of q":           {power(0, api.MaxTerms+1), read("x - 1"), 0, api.ErrLarge},
		"terms of f":                    {long, read("y"), 1, api.OK},
		"terms of r":                    {read("y"), poly.Sub(read("y"), long), 1, api.OK},
		"too many terms of r":           {sum(read("y"), power(0, api.MaxTerms+1)), poly.Sub(read("y"), long), 1, api.ErrLarge},
		"terms of the first rest":       {f, g, 1, api.OK},
		"too many of the first rest":    {largeF, largeG, 1, api.ErrLarge},
		"exponent of q":                 {product(great, read("y")), read("x*y + 1"), 1, api.OK},
		"too great an exponent of q":    {product(great, read("y^2")), read("x*y + 1"), 1, api.ErrLarge},
		"exponent of r":                 {product(less, read("y")), read("y - x"), 1, api.OK},
		"too great an exponent of r":    {product(great, read("y")), read("y - x"), 1, api.ErrLarge},
		"exponent of r, not of v alone": {product(less, read("z^3")), read("z - x"), 2, api.ErrLarge},
		"terms of g":                    {read("x"), sum(read("y"), long), 1, api.OK},
		"terms of g that cancel":        {sum(read("y"), long[1:]), sum(read("y + 1"), long), 1, api.OK},
	} {
		q, r, power, e := pseudo.Divide(x.f, x.g, x.v)
		if e != x.want {
			t.Errorf("Divide (%s) has the error %d, want %d", what, e, x.want)
		}
		if e == api.OK {
			expectIdentity(t, x.f, x.g, x.v, q, r, power)
		} else if len(q) > 0 || len(r) > 0 || power != 0 {
			t.Errorf("Divide (%s) returns more than an error", what)
		}
	}
}

// highest returns the coefficient of the highest power of v in p.
func highest(p api.Poly, v int) api.Poly {
	coefs := pseudo.Coefs(p, v)
	return coefs[len(coefs)-1]
}

// expectIdentity fails unless c^power f = q g + r, where r is 0 or has a smaller degree in v than g.
func expectIdentity(t *testing.T, f, g api.Poly, v int, q, r api.Poly, power int) {
	t.Helper()
	left := f
	for range power {
		left = poly.Mul(highest(g, v), left)
	}
	if !poly.Equal(poly.Add(poly.Mul(q, g), r), left) { // both may have exponents that are too great
		t.Fatalf("%s is not the product of %s and %s, and %s", text(left), text(q), text(g), text(r))
	}
	if len(r) > 0 && pseudo.DegreeIn(r, v) >= pseudo.DegreeIn(g, v) || !poly.Right(q) || !poly.Right(r) {
		t.Fatalf("Divide of %s and %s by %d has the quotient %s and the rest %s", text(f), text(g), v, text(q), text(r))
	}
}

// isLarge reports whether p is large.
func isLarge(p api.Poly) bool {
	return len(p) > api.MaxTerms || slices.ContainsFunc(p, func(t api.Term) bool {
		return slices.ContainsFunc(t.Mono, func(n int) bool { return n > api.MaxExp })
	})
}

// divide returns what the definition of the document says, word by word.
func divide(f, g api.Poly, v int) (q, r api.Poly, steps int, e api.Errno) {
	r = f
	c, degree := highest(g, v), pseudo.DegreeIn(g, v)
	for {
		if isLarge(q) || isLarge(r) {
			return nil, nil, 0, api.ErrLarge
		}
		n := pseudo.DegreeIn(r, v)
		if len(r) == 0 || n < degree {
			return q, r, steps, api.OK
		}
		b := poly.Mul(power(v, n-degree), highest(r, v))
		q = poly.Add(poly.Mul(c, q), b)
		r = poly.Sub(poly.Mul(c, r), poly.Mul(b, g))
		steps++
	}
}

// expectDefinition fails unless Divide returns what the definition says.
func expectDefinition(t *testing.T, f, g api.Poly, v int) {
	t.Helper()
	q, r, power, e := pseudo.Divide(f, g, v)
	wantQ, wantR, wantPower, wantE := divide(f, g, v)
	expect(t, "the quotient", q, wantQ)
	expect(t, "the rest", r, wantR)
	if power != wantPower || e != wantE {
		t.Fatalf("Divide of %s and %s by %d has the power %d and the error %d, want %d and %d", text(f), text(g), v, power, e, wantPower, wantE)
	}
	if e == api.OK {
		expectIdentity(t, f, g, v, q, r, power)
	}
}

// P8.3 and P8.6
func TestDivideRandom(t *testing.T) {
	r := newSource()
	for range 3 * rounds {
		f, g := randomPoly(r, 8, 4), randomPoly(r, 5, 3)
		if len(g) > 0 {
			expectDefinition(t, f, g, r.Intn(5))
		}
	}
}

// P8.3: with great exponents, quotients and rests are large sooner or later.
func TestDivideGreatExponents(t *testing.T) {
	r := newSource()
	counts := map[api.Errno]int{}
	for range rounds {
		u := r.Intn(4)
		v := (u + 1 + r.Intn(3)) % 4
		f := product(power(v, 2), randomPoly(r, 3, 5))
		f = product(power(u, api.MaxExp-r.Intn(3)-max(0, pseudo.DegreeIn(f, u))), f)
		g := sum(product(power(v, 1), power(u, r.Intn(4))), randomPoly(r, 2, 1))
		if len(g) == 0 {
			continue
		}
		expectDefinition(t, f, g, v)
		_, _, _, e := pseudo.Divide(f, g, v)
		counts[e]++
	}
	if min(counts[api.OK], counts[api.ErrLarge]) < rounds/4 {
		t.Errorf("the errors are %v", counts)
	}
}
