package monomial_test

import (
	"math"
	"testing"

	"geoprover/api"
	"geoprover/monomial"
)

// P5.1
func TestRight(t *testing.T) {
	for _, x := range []struct {
		a    api.Mono
		want bool
	}{
		{nil, true},
		{api.Mono{}, true},
		{api.Mono{1}, true},
		{api.Mono{2, 1}, true},
		{api.Mono{0, 0, 3}, true},
		{api.Mono{0}, false},
		{api.Mono{1, 0}, false},
		{api.Mono{1, 0, 0}, false},
		{api.Mono{-1}, false},
		{api.Mono{1, -1}, false},
		{api.Mono{-1, 1}, false},
		{api.Mono{0, -1, 2}, false},
		{api.Mono{math.MinInt, 1}, false},
		{api.Mono{api.MaxExp}, true},
		{api.Mono{api.MaxExp + 1}, false},
		{api.Mono{api.MaxExp + 1, 1}, false},
		{api.Mono{math.MaxInt}, false},
		{full(api.MaxVars, api.MaxExp), true},
		{full(api.MaxVars+1, 1), false},
		{power(api.MaxVars-1, 1), true},
		{power(api.MaxVars, 1), false},
		{make(api.Mono, api.MaxVars+1), false},
	} {
		if got := monomial.Right(x.a); got != x.want {
			t.Errorf("Right(%v) = %v", x.a, got)
		}
	}
}

// P5.1
func TestNorm(t *testing.T) {
	for _, x := range []struct{ a, want api.Mono }{
		{nil, nil},
		{api.Mono{0}, nil},
		{api.Mono{0, 0, 0}, nil},
		{api.Mono{1, 0, 0}, api.Mono{1}},
		{api.Mono{0, 2, 0}, api.Mono{0, 2}},
		{api.Mono{2, 1}, api.Mono{2, 1}},
		{api.Mono{1, -1}, nil},
		{api.Mono{1, -1, 0}, nil},
		{api.Mono{-1, 1}, nil},
		{api.Mono{-1, 0}, nil},
		{api.Mono{api.MaxExp, 0}, api.Mono{api.MaxExp}},
		{api.Mono{api.MaxExp + 1, 0}, nil},
		{api.Mono{api.MaxExp + 1, 2}, nil},
		{full(api.MaxVars, 1), full(api.MaxVars, 1)},
		{append(full(api.MaxVars, 1), 0, 0), full(api.MaxVars, 1)},
		{full(api.MaxVars+1, 1), nil},
		{make(api.Mono, 1000), nil},
	} {
		expect(t, "Norm", monomial.Norm(x.a), x.want)
	}
}

// P5.2
func TestDegree(t *testing.T) {
	for _, x := range []struct {
		a    api.Mono
		want int
	}{
		{nil, 0},
		{api.Mono{2, 1}, 3},
		{api.Mono{0, 0, 7}, 7},
		{full(api.MaxVars, api.MaxExp), api.MaxVars * api.MaxExp},
	} {
		if got := monomial.Degree(x.a); got != x.want {
			t.Errorf("Degree(%v) = %d", x.a, got)
		}
	}
}

// P5.2: Exp of any number as the variable.
func TestExp(t *testing.T) {
	a := api.Mono{2, 0, 5}
	for v, want := range map[int]int{0: 2, 1: 0, 2: 5, 3: 0, 63: 0, 64: 0, -1: 0, math.MaxInt: 0, math.MinInt: 0} {
		if got := monomial.Exp(a, v); got != want {
			t.Errorf("Exp of the variable %d is %d", v, got)
		}
		if got := monomial.Exp(nil, v); got != 0 {
			t.Errorf("Exp of 1 and the variable %d is %d", v, got)
		}
	}
}

// P5.2
func TestMain(t *testing.T) {
	for _, x := range []struct {
		a    api.Mono
		want int
	}{
		{nil, -1},
		{api.Mono{}, -1},
		{api.Mono{3}, 0},
		{api.Mono{2, 1}, 1},
		{power(api.MaxVars-1, 1), api.MaxVars - 1},
	} {
		if got := monomial.Main(x.a); got != x.want {
			t.Errorf("Main(%v) = %d", x.a, got)
		}
	}
}

// P5.5
func TestCmp(t *testing.T) {
	for _, x := range []struct {
		a, b        api.Mono
		lex, degLex int
	}{
		{nil, nil, 0, 0},
		{nil, api.Mono{1}, -1, -1},
		{api.Mono{5}, api.Mono{0, 1}, -1, 1},
		{api.Mono{0, 1}, api.Mono{2}, 1, -1},
		{api.Mono{0, 1}, api.Mono{1}, 1, 1},
		{api.Mono{2, 1}, api.Mono{1, 1}, 1, 1},
		{api.Mono{2, 1}, api.Mono{1, 2}, -1, -1},
		{api.Mono{9, 1}, api.Mono{1, 2}, -1, 1},
		{api.Mono{0, 3, 1}, api.Mono{4, 0, 1}, 1, -1},
		{api.Mono{1, 2, 1}, api.Mono{2, 1, 1}, 1, 1},
		{api.Mono{1, 2, 3}, api.Mono{1, 2, 3}, 0, 0},
		{full(api.MaxVars, api.MaxExp), power(api.MaxVars-1, api.MaxExp), 1, 1},
	} {
		for order, want := range map[int]int{api.Lex: x.lex, api.DegLex: x.degLex, 2: x.lex, -1: x.lex, math.MaxInt: x.lex, math.MinInt: x.lex} {
			if got := monomial.Cmp(x.a, x.b, order); got != want {
				t.Errorf("Cmp(%v, %v, %d) = %d", x.a, x.b, order, got)
			}
			if got := monomial.Cmp(x.b, x.a, order); got != -want {
				t.Errorf("Cmp(%v, %v, %d) = %d", x.b, x.a, order, got)
			}
		}
	}
}
