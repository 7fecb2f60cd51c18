package interval_test

import (
	"math/big"
	"math/rand"
	"slices"
	"strings"
	"testing"

	"geoprover/api"
	"geoprover/interval"
	"geoprover/rational"
)

// rounds is the number of pseudo-random cases of a test.
const rounds = 2000

// newSource returns a generator with a fixed seed, so that each run tests the same numbers.
func newSource() *rand.Rand { return rand.New(rand.NewSource(4)) }

// number returns the number with the text s.
func number(s string) api.Rat {
	a, e := rational.Read(s)
	if e != api.OK {
		panic(s)
	}
	return a
}

// span returns the interval with the text s: two numbers and a space, or one number for a point.
func span(s string) api.Interval {
	lo, hi, two := strings.Cut(s, " ")
	if !two {
		hi = lo
	}
	return api.Interval{Lo: number(lo), Hi: number(hi)}
}

// show returns the text of an interval, in brackets.
func show(a api.Interval) string {
	return "[" + rational.Text(a.Lo) + " " + rational.Text(a.Hi) + "]"
}

// randomRat returns a small or a large valid number, often an integer.
func randomRat(r *rand.Rand) api.Rat {
	if r.Intn(4) == 0 {
		a, _ := rational.Div(rational.Mul(rational.Of(r.Int()), rational.Of(-r.Int())), rational.Of(r.Int()+1))
		return a
	}
	return rational.Frac(r.Intn(13)-6, 1+r.Intn(4))
}

// randomInterval returns a valid interval, often a point, and often one with an end point 0.
func randomInterval(r *rand.Rand) api.Interval {
	lo, hi := randomRat(r), randomRat(r)
	switch r.Intn(5) {
	case 0:
		lo = hi
	case 1:
		lo = rational.Of(0)
	}
	if rational.Cmp(lo, hi) > 0 {
		lo, hi = hi, lo
	}
	return api.Interval{Lo: lo, Hi: hi}
}

// inside returns numbers of a: its end points, and some between them.
func inside(r *rand.Rand, a api.Interval) []api.Rat {
	width := rational.Sub(a.Hi, a.Lo)
	l := []api.Rat{a.Lo, a.Hi}
	for range 3 {
		l = append(l, rational.Add(a.Lo, rational.Mul(width, rational.Frac(r.Intn(8), 7))))
	}
	return l
}

// isPart reports whether all numbers of a are in b.
func isPart(a, b api.Interval) bool {
	return rational.Cmp(b.Lo, a.Lo) <= 0 && rational.Cmp(a.Hi, b.Hi) <= 0
}

// part returns a random part of a.
func part(r *rand.Rand, a api.Interval) api.Interval {
	l := inside(r, a)
	slices.SortFunc(l, rational.Cmp)
	return api.Interval{Lo: l[r.Intn(3)], Hi: l[2+r.Intn(3)]}
}

// toBig returns the value of a.
func toBig(a api.Rat) *big.Rat {
	x, _ := new(big.Rat).SetString(rational.Text(a))
	return x
}

// same reports whether two representations are equal.
func same(a, b api.Interval) bool { return sameRat(a.Lo, b.Lo) && sameRat(a.Hi, b.Hi) }

// sameRat reports whether two representations are equal.
func sameRat(a, b api.Rat) bool {
	return a.Num.Neg == b.Num.Neg && slices.Equal(a.Num.Abs, b.Num.Abs) && slices.Equal(a.Den, b.Den)
}

// expect fails unless got is the interval want, and valid.
func expect(t *testing.T, what string, got, want api.Interval) {
	t.Helper()
	if !same(got, want) || !interval.Right(got) {
		t.Errorf("%s is %s, want %s", what, show(got), show(want))
	}
}

// expectError fails unless an operation returned the zero Interval and the error want.
func expectError(t *testing.T, what string, got api.Interval, e, want api.Errno) {
	t.Helper()
	if !same(got, api.Interval{}) || e != want {
		t.Errorf("%s is %v, %d, want the error %d", what, got, e, want)
	}
}
