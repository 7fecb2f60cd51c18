package ideal_test

import (
	"math/rand"
	"slices"
	"testing"

	"geoprover/api"
	"geoprover/ideal"
	"geoprover/poly"
	"geoprover/rational"
)

// zerosOf returns the points with small integers as coordinates at which all polynomials vanish.
func zerosOf(polys []api.Poly) [][]api.Rat {
	var points [][]api.Rat
	for n := range 5 * 5 * 5 {
		point := []api.Rat{rational.Of(n%5 - 2), rational.Of(n/5%5 - 2), rational.Of(n/25 - 2)}
		if !slices.ContainsFunc(polys, func(p api.Poly) bool { return !vanishes(p, point) }) {
			points = append(points, point)
		}
	}
	return points
}

// vanishes reports whether p vanishes at the point.
func vanishes(p api.Poly, point []api.Rat) bool {
	value, e := poly.Eval(p, point)
	return e == api.OK && rational.Sign(value) == 0
}

// randomPlanes returns the product of at most n linear polynomials with small coefficients.
func randomPlanes(r *rand.Rand, n int) api.Poly {
	p := read("1")
	for range 1 + r.Intn(n) {
		factor := product(power(r.Intn(3), 1), read([]string{"1", "-1", "2"}[r.Intn(3)]))
		p = poly.Mul(p, poly.Add(factor, poly.Const(rational.Of(r.Intn(3)-1))))
	}
	return p
}

// changed returns c with a random change, which may lie in the numbers and lengths.
func changed(r *rand.Rand, c api.Certificate) api.Certificate {
	c.Factors, c.Powers, c.Cofactors = slices.Clone(c.Factors), slices.Clone(c.Powers), slices.Clone(c.Cofactors)
	switch r.Intn(6) {
	case 0:
		c.Power = r.Intn(3)
	case 1:
		c.Factors, c.Powers = append(c.Factors, nil), append(c.Powers, r.Intn(2))
		c.Cofactors = multiples(c.Cofactors, nil)
	case 2:
		c.Cofactors[r.Intn(len(c.Cofactors))] = randomPoly(r, 2, 1)
	case 3:
		c.Cofactors = c.Cofactors[1:]
	case 4:
		if len(c.Powers) > 0 {
			c.Powers[r.Intn(len(c.Powers))] += r.Intn(3) - 1
		}
	}
	return c
}

// P10.7
func TestSoundness(t *testing.T) {
	r := newSource()
	accepted, points := 0, 0
	for range 4 * rounds {
		x := theorem{goal: randomPlanes(r, 2), hyps: []api.Poly{randomPlanes(r, 3)}}
		x.c = api.Certificate{Factors: []api.Poly{randomPlanes(r, 2)}, Powers: []int{1 + r.Intn(2)}, Power: 1 + r.Intn(2), Cofactors: randomPolys(r, 1, 2, 1)}
		x.hyps = append(x.hyps, poly.Sub(leftSide(x.c, x.goal), combination(x.c.Cofactors, x.hyps)))
		x.c.Cofactors = append(x.c.Cofactors, read("1"))
		if r.Intn(2) == 0 {
			x.goal = randomPlanes(r, 2)
		}
		c := changed(r, x.c)
		if ideal.Check(c, x.hyps, x.goal) != api.OK {
			continue
		}
		accepted++
		for _, point := range zerosOf(x.hyps) {
			if slices.ContainsFunc(c.Factors, func(f api.Poly) bool { return vanishes(f, point) }) {
				continue
			}
			points++
			if !vanishes(x.goal, point) {
				t.Fatalf("Check accepts %s for %s and %s", textOf(c), textAll(x.hyps), text(x.goal))
			}
		}
	}
	if accepted < rounds/4 || points < rounds {
		t.Errorf("%d certificates are accepted, for %d points", accepted, points)
	}
}

// P10.8
func TestCancelling(t *testing.T) {
	r := newSource()
	for range rounds {
		x := randomTheorem(r)
		for i := range x.c.Factors {
			less, ok := ideal.Cancel(x.c, i)
			if !ok {
				continue
			}
			if e := ideal.Check(less, x.hyps, x.goal); e != api.OK {
				t.Fatalf("Cancel of %s returns %s: %d", textOf(x.c), textOf(less), e)
			}
		}
		least := ideal.Minimal(x.c)
		if e := ideal.Check(least, x.hyps, x.goal); e != api.OK {
			t.Fatalf("Minimal of %s returns %s: %d", textOf(x.c), textOf(least), e)
		}
		for i := range least.Factors {
			if _, ok := ideal.Cancel(least, i); ok || least.Powers[i] == 0 || poly.Degree(least.Factors[i]) <= 0 {
				t.Fatalf("Minimal of %s returns %s", textOf(x.c), textOf(least))
			}
		}
		expectCertificate(t, "Minimal of Minimal", ideal.Minimal(least), least)
	}
}

// P10.8: what Minimal returns is accepted, or has a left side with too many terms on the way.
func TestCancellingLarge(t *testing.T) {
	full := dense(0, api.MaxTerms)
	c := api.Certificate{Factors: []api.Poly{read("x - 1"), full}, Powers: []int{1, 1}, Power: 1, Cofactors: readAll("x - 1")}
	hyps := []api.Poly{poly.Mul(full, read("x + y"))}
	if e := ideal.Check(c, hyps, read("x + y")); e != api.OK {
		t.Fatalf("Check returns %d", e)
	}
	less, ok := ideal.Cancel(c, 0)
	if e := ideal.Check(less, hyps, read("x + y")); !ok || e != api.ErrLarge {
		t.Errorf("Check of Cancel returns %d", e)
	}
	if e := ideal.Check(ideal.Minimal(c), hyps, read("x + y")); e != api.ErrLarge {
		t.Errorf("Check of Minimal returns %d", e)
	}
}

// P10.9
func TestMoreFactors(t *testing.T) {
	r := newSource()
	for range rounds {
		x := randomTheorem(r)
		f := randomPoly(r, 3, 2)
		if len(f) == 0 {
			continue
		}
		at := r.Intn(len(x.c.Factors) + 1)
		more := api.Certificate{Factors: slices.Insert(slices.Clone(x.c.Factors), at, f), Powers: slices.Insert(slices.Clone(x.c.Powers), at, 1), Power: x.c.Power, Cofactors: multiples(x.c.Cofactors, f)}
		if e := ideal.Check(more, x.hyps, x.goal); e != api.OK {
			t.Fatalf("Check of %s for %s and %s returns %d", textOf(more), textAll(x.hyps), text(x.goal), e)
		}
	}
	c := api.Certificate{Factors: []api.Poly{dense(0, api.MaxTerms+1)}, Powers: []int{1}, Power: 1, Cofactors: []api.Poly{dense(0, api.MaxTerms+1)}}
	if e := ideal.Check(c, readAll("x"), read("x")); e != api.ErrLarge {
		t.Errorf("Check returns %d", e)
	}
}
