package wu_test

import (
	"math"
	"testing"

	"geoprover/api"
	"geoprover/poly"
	"geoprover/triangular"
	"geoprover/wu"
)

// P28.2: the examples of the chapter, and goals of several polynomials.
func TestRest(t *testing.T) {
	expectRests(t, sourceOf(t, "points A, B, C; prove collinear(A, B, C);"), 0, read("v0*v2"))
	expectRests(t, sourceOf(t, "points A, B; prove same(A, B);"), 0, read("-v0"), nil)
	p := sourceOf(t, "points A, B, C; D := foot(C, line(A, B)); prove perpendicular(line(A, B), line(C, D)); prove same(C, D); prove midpoint(D, A, B); prove same(A, A); prove congruent(A, D, B, D);")
	expectRests(t, p, 0, nil)
	expectRests(t, p, 1, nil, read("v0*v2"))          // v1 - v3 and v2 - v4, times v0
	expectRests(t, p, 2, read("v0^2 - 2*v0*v1"), nil) // v0 - 2 v3 and -2 v4, times v0
	expectRests(t, p, 3, nil, nil)
	expectRests(t, p, 4, read("2*v0^2*v1 - v0^3")) // 2 v0 v3 - v0^2, times v0
	expectRests(t, made(nil, readAll("v1 - 1, v0, 0")), 0, readAll("v1 - 1, v0, 0")...)
	expectRests(t, made(readAll("v0, 0"), readAll("v1 + v0, v0^2 + 3, v0")), 0, readAll("v1, 3, 0")...)
	expectRests(t, made(readAll("v0"), nil), 0)
}

// P28.2: hypotheses that are 0 divide nothing.
func TestRestByZero(t *testing.T) {
	p := makeOf(t, figure("free, free, foot 1 0 0 | collinear 0 1 2, same 2 0, perpendicular 0 2 0 0"))
	expectRests(t, p, 0, read("v0*v2"))
	expectRests(t, p, 1, read("v1"), read("v2"))
	expectRests(t, p, 2, nil)
}

// P28.2: no such goal, also where the chain or a reduction has an error.
func TestRestOfNoGoal(t *testing.T) {
	for _, p := range []api.Problem{
		{}, sourceOf(t, "points A, B, C;"), sourceOf(t, "points A, B, C; D := foot(C, line(A, B)); prove collinear(A, B, D); prove same(C, D);"),
		makeOf(t, largeChain()), makeOf(t, largeRest(60, 60)), made(readAll("1"), readAll("v0")), made(nil, []api.Poly{{{Mono: api.Mono{-1}}}}),
	} {
		for _, goal := range []int{-1, -2, math.MinInt, len(p.Goals), len(p.Goals) + 1, math.MaxInt} {
			expectNoRests(t, p, goal, api.ErrRange)
		}
	}
}

// P28.2: an error of the chain comes before those of reductions.
func TestRestOfNoChain(t *testing.T) {
	invalid := api.Poly{{Mono: api.Mono{-1}}}
	high := dense(0, api.MaxTerms+1)
	expectNoRests(t, makeOf(t, largeChain()), 0, api.ErrLarge)
	expectNoRests(t, makeOf(t, largeChain()), 1, api.ErrLarge)
	expectNoRests(t, made(readAll("v0, v0 + 1"), []api.Poly{invalid}), 0, api.ErrNone)
	expectNoRests(t, made([]api.Poly{high}, []api.Poly{invalid}), 0, api.ErrLarge)
	expectNoRests(t, made(readAll("v0, v0 + 1"), nil, []api.Poly{high}), 1, api.ErrNone)
}

// P28.2: the errors of reductions: the first one decides.
func TestRestErrors(t *testing.T) {
	expectNoRests(t, makeOf(t, largeRest(60, 60)), 0, api.ErrLarge)
	hyps := readAll("v0*v1 - 1")
	good, invalid, large := read("v1^2"), api.Poly{{Mono: api.Mono{-1}}}, poly.Mul(read("v1"), dense(0, api.MaxTerms+1))
	for _, c := range []struct {
		goal []api.Poly
		want api.Errno
	}{
		{[]api.Poly{invalid}, api.ErrArg}, {[]api.Poly{large}, api.ErrLarge}, {[]api.Poly{good, good, invalid}, api.ErrArg}, {[]api.Poly{good, large, good}, api.ErrLarge},
		{[]api.Poly{invalid, large}, api.ErrArg}, {[]api.Poly{large, invalid}, api.ErrLarge}, {[]api.Poly{nil, invalid, large}, api.ErrArg},
	} {
		p := made(hyps, []api.Poly{good}, c.goal, []api.Poly{good})
		expectNoRests(t, p, 1, c.want)
		expectRests(t, p, 0, read("1"))
		expectRests(t, p, 2, read("1"))
	}
}

// P28.2: a rest of a problem that is right, with few terms less than those that are too many.
func TestRestLimit(t *testing.T) {
	for _, c := range []struct{ m, n int }{{50, 40}, {40, 50}, {1, 1999}} { // the rest has 2 m n terms
		rests, e := wu.Rest(makeOf(t, largeRest(c.m, c.n)), 0)
		if e != api.OK || len(rests) != 1 || len(rests[0]) != 2*c.m*c.n {
			t.Errorf("Rest of a product of %d and %d terms returns %s, %d", c.m, c.n, show(rests), e)
		}
	}
	expectNoRests(t, makeOf(t, largeRest(3, 667)), 0, api.ErrLarge)
	expectNoProof(t, makeOf(t, largeRest(40, 50)), 0, api.ErrNone)
}

// P28.2: against the definition, for random figures.
func TestRestRandom(t *testing.T) {
	r := newSource()
	zero, other := 0, 0
	for range rounds {
		f := randomFigure(r, 4)
		f.Goals = append(f.Goals[:min(len(f.Goals), 7)], randomFact(r, len(f.Steps)))
		p := makeOf(t, f)
		chain, e := triangular.Make(p.Hyps)
		if e != api.OK {
			expectNoRests(t, p, 0, e)
			continue
		}
		var divisors []api.Poly
		for _, x := range chain {
			divisors = append(divisors, x.Poly)
		}
		for goal, polys := range p.Goals {
			var want []api.Poly
			failed := api.OK
			for _, g := range polys {
				x, e := triangular.Reduce(g, divisors)
				if failed == api.OK {
					failed = e
				}
				want = append(want, x.Rest)
				if len(x.Rest) == 0 {
					zero++
				} else {
					other++
				}
			}
			if failed != api.OK {
				expectNoRests(t, p, goal, failed)
			} else {
				expectRests(t, p, goal, want...)
			}
		}
	}
	if min(zero, other) < rounds/2 {
		t.Errorf("%d rests are 0, and %d are not", zero, other)
	}
}
