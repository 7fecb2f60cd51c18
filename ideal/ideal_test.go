package ideal_test

import (
	"math"
	"testing"

	"geoprover/api"
	"geoprover/ideal"
	"geoprover/poly"
)

// P10.1
func TestCombine(t *testing.T) {
	for _, x := range []struct{ cofactors, list, want string }{
		{"", "", "0"},
		{"0", "0", "0"},
		{"x", "0", "0"},
		{"0", "x", "0"},
		{"1", "x - 2", "x - 2"},
		{"3/2", "2/3", "1"},
		{"y, -x", "x, y", "0"},
		{"x, y", "x, y", "y^2 + x^2"},
		{"x + y", "x - y", "x^2 - y^2"},
		{"x, 1, -1", "y, x, y", "x*y - y + x"},
		{"x + 1, 1/2*z", "x + 1, 2*z", "z^2 + x^2 + 2*x + 1"},
	} {
		got, e := ideal.Combine(readAll(x.cofactors), readAll(x.list))
		expect(t, "the combination of "+x.cofactors+" and "+x.list, got, e, read(x.want))
	}
}

// P10.1
func TestCombineRandom(t *testing.T) {
	r := newSource()
	for range rounds {
		n := r.Intn(5)
		cofactors, list := randomPolys(r, n, 12, 3), randomPolys(r, n, 12, 3)
		got, e := ideal.Combine(cofactors, list)
		expect(t, "the combination", got, e, combination(cofactors, list))
		if n > 0 { // a combination that is 0
			cofactors, list = append(cofactors, poly.Neg(got)), append(list, read("1"))
			got, e = ideal.Combine(cofactors, list)
			expect(t, "the combination", got, e, nil)
		}
	}
}

// P10.1: MaxTerms terms are permitted, and exponents have no limit.
func TestCombineLimits(t *testing.T) {
	full := dense(0, api.MaxTerms)
	got, e := ideal.Combine([]api.Poly{read("1"), read("y"), read("x")}, []api.Poly{full, nil, full})
	if e != api.ErrLarge || len(got) != 0 {
		t.Errorf("the combination with %d terms has the error %d", len(got), e)
	}
	shorter := dense(0, api.MaxTerms-1)
	got, e = ideal.Combine([]api.Poly{full, read("x - 1"), read("y")}, []api.Poly{read("-3"), shorter, nil})
	expect(t, "the combination", got, e, poly.Add(product(read("-3"), full), product(read("x - 1"), shorter)))
	got, e = ideal.Combine([]api.Poly{read("x - 1"), shorter}, []api.Poly{dense(0, api.MaxTerms+1), read("2")})
	if e != api.OK || len(got) != api.MaxTerms {
		t.Errorf("the combination has %d terms and the error %d", len(got), e)
	}
	got, e = ideal.Combine([]api.Poly{power(2, api.MaxExp)}, []api.Poly{read("x*z^2 + y")})
	want := poly.Mul(power(2, api.MaxExp), read("x*z^2 + y"))
	if e != api.OK || !isSame(got, want) {
		t.Errorf("the combination is %v, %d", got, e)
	}
}

// P10.1
func TestCombineErrors(t *testing.T) {
	large := dense(0, api.MaxTerms+1)
	one, minus := read("1"), read("-1")
	for _, x := range []struct {
		cofactors, list []api.Poly
		want            api.Errno
	}{
		{readAll("1"), nil, api.ErrMismatch},
		{nil, readAll("1"), api.ErrMismatch},
		{readAll("1, 2"), readAll("x"), api.ErrMismatch},
		{readAll("1"), readAll("x, y"), api.ErrMismatch},
		{[]api.Poly{large}, []api.Poly{one, one}, api.ErrMismatch},
		{[]api.Poly{large, one}, []api.Poly{one}, api.ErrMismatch},
		{[]api.Poly{large}, []api.Poly{one}, api.ErrLarge},
		{[]api.Poly{one}, []api.Poly{large}, api.ErrLarge},
		{[]api.Poly{large, nil}, []api.Poly{read("2"), one}, api.ErrLarge},
		{[]api.Poly{large, large}, []api.Poly{one, minus}, api.ErrLarge}, // 0 in the end
		{[]api.Poly{one, one, one}, []api.Poly{dense(0, 3000), product(read("y"), dense(0, 1001)), poly.Neg(dense(0, 2000))}, api.ErrLarge},
		{[]api.Poly{dense(0, 64), one}, []api.Poly{dense(1, 63), nil}, api.ErrLarge},
		{[]api.Poly{dense(0, api.MaxTerms)}, []api.Poly{dense(1, api.MaxTerms)}, api.ErrLarge},
		{[]api.Poly{dense(1, api.MaxTerms)}, []api.Poly{dense(0, api.MaxTerms)}, api.ErrLarge},
	} {
		if got, e := ideal.Combine(x.cofactors, x.list); len(got) != 0 || e != x.want {
			t.Errorf("the combination of %s and %s is %s, %d, want %d", textAll(x.cofactors), textAll(x.list), text(got), e, x.want)
		}
	}
}

// P10.1
func TestRight(t *testing.T) {
	large := dense(0, api.MaxTerms+1)
	for _, x := range []struct {
		p               api.Poly
		cofactors, list []api.Poly
		want            bool
	}{
		{nil, nil, nil, true},
		{read("1"), nil, nil, false},
		{nil, readAll("y, -x"), readAll("x, y"), true},
		{nil, readAll("y, x"), readAll("x, y"), false},
		{read("x^2 + y"), readAll("x, 1"), readAll("x, y"), true},
		{read("x^2 - y"), readAll("x, 1"), readAll("x, y"), false},
		{read("2*x^2 + y"), readAll("x, 1"), readAll("x, y"), false},
		{read("x^2"), readAll("x, 1"), readAll("x, y"), false},
		{nil, readAll("x, 1"), readAll("x, y"), false},
		{read("x"), readAll("1"), readAll("x, y"), false},
		{read("x"), readAll("1, 0"), readAll("x"), false},
		{nil, nil, readAll("x"), false},
		{nil, readAll("x"), nil, false},
		{large, []api.Poly{large}, readAll("1"), false},
		{nil, []api.Poly{large}, readAll("1"), false},
		{nil, []api.Poly{large, large}, readAll("1, -1"), false},
		{dense(0, api.MaxTerms), readAll("1"), []api.Poly{dense(0, api.MaxTerms)}, true},
	} {
		if got := ideal.Right(api.Element{Poly: x.p, Cofactors: x.cofactors}, x.list); got != x.want {
			t.Errorf("Right of %s, %s and %s returns %t", text(x.p), textAll(x.cofactors), textAll(x.list), got)
		}
	}
}

// P10.1
func TestRightRandom(t *testing.T) {
	r := newSource()
	for range rounds {
		n := r.Intn(4)
		x, list := api.Element{Cofactors: randomPolys(r, n, 5, 2)}, randomPolys(r, n, 5, 2)
		x.Poly = combination(x.Cofactors, list)
		if !ideal.Right(x, list) {
			t.Fatalf("%s is not the combination of %s and %s", text(x.Poly), textAll(x.Cofactors), textAll(list))
		}
		if d := randomPoly(r, 2, 3); len(d) > 0 {
			x.Poly = poly.Add(x.Poly, d)
			if ideal.Right(x, list) {
				t.Fatalf("%s is the combination of %s and %s", text(x.Poly), textAll(x.Cofactors), textAll(list))
			}
		}
	}
}

// P10.2
func TestProduct(t *testing.T) {
	for _, x := range []struct {
		factors string
		powers  []int
		want    string
	}{
		{"", nil, "1"},
		{"x, y", []int{2, 0}, "x^2"},
		{"x, y", []int{0, 0}, "1"},
		{"x, y", []int{1, 3}, "x*y^3"},
		{"x + y, x - y", []int{1, 1}, "x^2 - y^2"},
		{"x + 1", []int{2}, "x^2 + 2*x + 1"},
		{"2/3, x, -3", []int{2, 1, 1}, "-4/3*x"},
		{"0", []int{0}, "1"},
		{"0", []int{1}, "0"},
		{"x, 0, y", []int{64, 64, 64}, "0"},
		{"x, -y", []int{64, 64}, "x^64*y^64"},
		{"x, -y", []int{1, 63}, "-x*y^63"},
	} {
		got, e := ideal.Product(readAll(x.factors), x.powers)
		expect(t, "the product of "+x.factors, got, e, read(x.want))
	}
}

// P10.2
func TestProductRandom(t *testing.T) {
	r := newSource()
	for range rounds {
		c := api.Certificate{Factors: randomPolys(r, r.Intn(4), 3, 2)}
		for range c.Factors {
			c.Powers = append(c.Powers, r.Intn(4))
		}
		got, e := ideal.Product(c.Factors, c.Powers)
		expect(t, "the product", got, e, leftSide(c, nil))
	}
}

// P10.2: MaxTerms terms and the power 64 are permitted, and exponents have no limit.
func TestProductLimits(t *testing.T) {
	for _, x := range []struct {
		factors []api.Poly
		powers  []int
		terms   int
	}{
		{[]api.Poly{dense(0, api.MaxTerms)}, []int{1}, api.MaxTerms},
		{[]api.Poly{dense(0, api.MaxTerms+1)}, []int{0}, 1},
		{[]api.Poly{dense(0, api.MaxTerms+1), read("x")}, []int{0, 64}, 1},
		{[]api.Poly{read("x + 1"), dense(0, api.MaxTerms-1)}, []int{1, 1}, api.MaxTerms},
		{[]api.Poly{curve(88)}, []int{2}, 88 * 89 / 2},
		{readAll("x + 1, y + 1"), []int{64, 60}, 65 * 61},
		{readAll("x - 1, y - 1"), []int{60, 64}, 65 * 61},
		{[]api.Poly{read("x - 1"), dense(0, api.MaxTerms+1)}, []int{1, 1}, 2},
		{[]api.Poly{power(1, api.MaxExp)}, []int{64}, 1},
		{[]api.Poly{nil, dense(0, api.MaxTerms+1)}, []int{1, 64}, 0},
	} {
		if got, e := ideal.Product(x.factors, x.powers); len(got) != x.terms || e != api.OK {
			t.Errorf("the product of %s has %d terms and the error %d, want %d", textAll(x.factors), len(got), e, x.terms)
		}
	}
	got, e := ideal.Product([]api.Poly{power(1, api.MaxExp)}, []int{64})
	expect(t, "the product", got, e, api.Poly{{Coef: read("1")[0].Coef, Mono: api.Mono{0, 64 * api.MaxExp}}})
}

// P10.2
func TestProductErrors(t *testing.T) {
	large := dense(0, api.MaxTerms+1)
	for _, x := range []struct {
		factors []api.Poly
		powers  []int
		want    api.Errno
	}{
		{readAll("x"), nil, api.ErrMismatch},
		{nil, []int{0}, api.ErrMismatch},
		{readAll("x, y"), []int{1}, api.ErrMismatch},
		{readAll("x"), []int{1, 1}, api.ErrMismatch},
		{[]api.Poly{large}, []int{-1, 65}, api.ErrMismatch},
		{readAll("x"), []int{-1}, api.ErrRange},
		{readAll("x"), []int{65}, api.ErrRange},
		{readAll("0"), []int{math.MinInt}, api.ErrRange},
		{readAll("1"), []int{math.MaxInt}, api.ErrRange},
		{readAll("x, y, z"), []int{1, 2, 65}, api.ErrRange},
		{[]api.Poly{large, read("x")}, []int{1, -1}, api.ErrRange},
		{[]api.Poly{large}, []int{1}, api.ErrLarge},
		{[]api.Poly{large, nil}, []int{1, 1}, api.ErrLarge},                            // 0 in the end
		{[]api.Poly{large, read("x - 1")}, []int{1, 1}, api.ErrLarge},                  // two terms in the end
		{[]api.Poly{read("x - 1"), large}, []int{1, 2}, api.ErrLarge},                  // two terms at first
		{[]api.Poly{read("x + 1"), dense(0, api.MaxTerms)}, []int{1, 1}, api.ErrLarge}, // 4001 terms
		{[]api.Poly{curve(89)}, []int{2}, api.ErrLarge},                                // 4005 terms
		{readAll("x + y + z + 1"), []int{64}, api.ErrLarge},                            // with a part of the power
		{[]api.Poly{dense(0, 63), dense(1, 64)}, []int{1, 1}, api.ErrLarge},            // 4032 terms
		{readAll("x + 1, y + 1"), []int{64, 61}, api.ErrLarge},
		{readAll("x - 1, y + 1"), []int{61, 64}, api.ErrLarge},
		{[]api.Poly{dense(0, api.MaxTerms), dense(1, api.MaxTerms)}, []int{1, 1}, api.ErrLarge},
	} {
		if got, e := ideal.Product(x.factors, x.powers); len(got) != 0 || e != x.want {
			t.Errorf("the product of %s with the powers %v is %s, %d, want %d", textAll(x.factors), x.powers, text(got), e, x.want)
		}
	}
}
