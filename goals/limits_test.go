package goals_test

import (
	"slices"
	"strconv"
	"testing"

	"geoprover/api"
	"geoprover/goals"
	"geoprover/hypotheses"
	"geoprover/poly"
	"geoprover/predicate"
)

// long returns steps that append a point whose coordinates have n terms for each term of those of the point start, which is the last one so far. The point 0 is the first free one.
func long(start, n int) string {
	var steps string
	next := start + 1
	add := func(step string) int {
		steps += ", " + step
		next++
		return next - 1
	}
	bits := strconv.FormatInt(int64(n), 2)
	point := start
	for _, bit := range bits[1:] {
		point = add("online " + strconv.Itoa(point) + " 0") // A - t A
		if bit == '1' {
			other := add("online 0 " + strconv.Itoa(start))
			point = add("shift " + strconv.Itoa(point) + " 0 " + strconv.Itoa(other)) // the sum of both
		}
	}
	return steps
}

// horizontal returns the steps of a figure whose point 2 is (v0 v1, 0), and whose last one is (p, 0) for a p with n terms.
func horizontal(n int) api.Figure { return figure("free, free, online 0 1" + long(2, n)) }

// add returns a figure with further steps.
func add(f api.Figure, steps string) api.Figure {
	return api.Figure{Steps: append(slices.Clip(f.Steps), figure(steps).Steps...)}
}

// P24.1: polynomials with MaxTerms terms, and with one more, in the first and in the second place.
func TestPolysTerms(t *testing.T) {
	met := map[int]int{}
	for _, terms := range []int{api.MaxTerms - 2, api.MaxTerms - 1, api.MaxTerms} {
		f := horizontal(terms)
		p := len(f.Steps) - 1 // (P, 0)
		f = add(f, "turn 0 0 "+strconv.Itoa(p)+", free")
		q, d := p+1, p+2 // (0, P) and (D, E)
		x := frameOf(t, f)
		P, D, E := x.Coords[p].X, x.Coords[d].X, x.Coords[d].Y
		v, zero := read("v0"), api.Poly{}
		plus, minus, times := poly.Add, poly.Sub, poly.Mul
		cube := times(v, times(v, v))
		for _, c := range []struct {
			f    api.Fact
			want []api.Poly
		}{
			{fact(api.FactSame, p, 0), []api.Poly{P, zero}},
			{fact(api.FactSame, p, 1), []api.Poly{minus(P, v), zero}},
			{fact(api.FactSame, 1, p), []api.Poly{minus(v, P), zero}},
			{fact(api.FactSame, q, 1), []api.Poly{poly.Neg(v), P}},
			{fact(api.FactSame, q, d), []api.Poly{poly.Neg(D), minus(P, E)}},
			{fact(api.FactMidpoint, 0, 1, p), []api.Poly{plus(v, P), zero}},
			{fact(api.FactMidpoint, p, 0, 0), []api.Poly{plus(poly.Neg(P), poly.Neg(P)), zero}},
			{fact(api.FactMidpoint, q, d, 0), []api.Poly{D, minus(E, plus(P, P))}},
			{fact(api.FactMidpoint, d, p, 1), []api.Poly{minus(plus(P, v), plus(D, D)), poly.Neg(plus(E, E))}},
			{fact(api.FactMidpoint, 0, q, q), []api.Poly{zero, plus(P, P)}},
			{fact(api.FactCollinear, 0, 1, q), []api.Poly{times(v, P)}},
			{fact(api.FactParallel, 0, 1, d, q), []api.Poly{times(v, minus(P, E))}},
			{fact(api.FactParallel, q, d, 1, 0), []api.Poly{times(v, minus(E, P))}},
			{fact(api.FactPerpendicular, 0, 1, 0, p), []api.Poly{times(v, P)}},
			{fact(api.FactPerpendicular, 0, 1, d, p), []api.Poly{times(v, minus(P, D))}},
			{fact(api.FactCongruent, 0, p, p, 1), []api.Poly{minus(times(plus(v, v), P), times(v, v))}},
			{fact(api.FactCongruent, p, d, p, 0), []api.Poly{minus(plus(times(D, D), times(E, E)), times(plus(D, D), P))}},
			{fact(api.FactConcyclic, p, 0, 1, 0), []api.Poly{zero}},
			{fact(api.FactAngle, 0, 1, 0, q, 0, 1, 0, 1), []api.Poly{times(cube, P)}},
			{fact(api.FactAngle, 0, 1, d, q, 1, 0, 1, 0), []api.Poly{times(cube, minus(P, E))}},
			{fact(api.FactAngle, 0, 1, 0, 1, 0, 1, d, q), []api.Poly{times(cube, minus(E, P))}},
			{ratio("1", 0, p, p, 1), []api.Poly{minus(times(plus(v, v), P), times(v, v))}},
		} {
			longest := 0
			for _, p := range c.want {
				longest = max(longest, len(p))
			}
			if met[longest]++; longest > api.MaxTerms {
				expectError(t, c.f, x, api.ErrLarge)
				continue
			}
			for k, p := range polysOf(t, c.f, x) {
				if !poly.Right(p) || !poly.Equal(p, c.want[k]) {
					t.Errorf("the polynomial %d of %v has %d terms", k, c.f, len(p))
				}
			}
		}
	}
	if met[api.MaxTerms] < 10 || met[api.MaxTerms+1] < 10 {
		t.Errorf("%d polynomials have MaxTerms terms, and %d one more", met[api.MaxTerms], met[api.MaxTerms+1])
	}
}

// P24.1: each error of predicate.Right comes before ErrLarge.
func TestPolysLargeErrors(t *testing.T) {
	f := horizontal(api.MaxTerms)
	p := len(f.Steps) - 1
	x := frameOf(t, f)
	expectError(t, fact(api.FactSame, p, 1), x, api.ErrLarge)
	expectError(t, fact(api.FactSame, p, 1, 1), x, api.ErrArg)
	expectError(t, fact(api.FactSame, p+1, 1), x, api.ErrRange)
	expectError(t, ratio("3", p, 1, -1, 0), x, api.ErrRange)
	expectError(t, fact(api.FactRatio, p, 1, 1, 0), x, api.ErrArg)
	expectError(t, ratio("3", p, 1, 1, 0), x, api.ErrLarge)
	expectError(t, api.Fact{Kind: 77, Args: []int{p, 1}}, x, api.ErrKind)
}

// P24.1: intermediate results that are longer than the polynomial. The squares of the coordinates, and the products of two of them, have far more than MaxTerms terms.
func TestPolysOfLongPoints(t *testing.T) {
	f := horizontal(200)
	p := len(f.Steps) - 1
	last := strconv.Itoa(p)
	f = add(f, "turn 0 0 "+last+", divide 0 "+last+" =1/2, divide 0 "+last+" =-3, turn "+last+" 0 "+last+", divide "+last+" "+strconv.Itoa(p+1)+" =1/3")
	q, half, back, corner, third := p+1, p+2, p+3, p+4, p+5
	x := frameOf(t, f)
	if square := hypotheses.Dot(x.Coords[0], x.Coords[p], x.Coords[0], x.Coords[p]); len(square) <= api.MaxTerms {
		t.Fatalf("the square has only %d terms", len(square))
	}
	for _, g := range []api.Fact{
		fact(api.FactCollinear, p, q, third),
		fact(api.FactCollinear, 0, half, back),
		fact(api.FactCollinear, q, p, p),
		fact(api.FactCollinear, p, q, p),
		fact(api.FactParallel, p, q, q, third),
		fact(api.FactParallel, 0, p, q, corner),
		fact(api.FactPerpendicular, 0, p, p, corner),
		fact(api.FactPerpendicular, 0, corner, p, q),
		fact(api.FactCongruent, 0, p, q, 0),
		fact(api.FactCongruent, p, q, q, p),
		fact(api.FactCongruent, 0, corner, q, p),
		fact(api.FactConcyclic, 0, p, corner, q),
		fact(api.FactConcyclic, p, q, p, third),
		fact(api.FactConcyclic, p, q, third, q),
		fact(api.FactAngle, 0, p, 0, corner, 0, corner, 0, q),
		fact(api.FactAngle, p, q, 0, 1, third, q, 1, 2),
		fact(api.FactAngle, 0, 1, p, q, 0, 1, p, q),
		ratio("4", 0, p, half, 0),
		ratio("9", back, 0, 0, q),
		ratio("2", p, q, q, 0),
		ratio("1", p, q, 0, corner),
	} {
		if l := polysOf(t, g, x); len(l) != 1 || len(l[0]) > 0 {
			t.Errorf("the polynomials of %v have %d terms", g, len(l[0]))
		}
	}
	for _, g := range []api.Fact{
		fact(api.FactCollinear, 0, p, q), fact(api.FactParallel, 0, p, 1, q), fact(api.FactPerpendicular, 0, p, half, 0), fact(api.FactCongruent, 0, p, 0, half),
		fact(api.FactConcyclic, 0, p, corner, third), fact(api.FactAngle, 0, p, 0, corner, 0, corner, 0, third), ratio("2", 0, p, 0, q), ratio("-1", 0, p, 1, 0),
	} {
		expectError(t, g, x, api.ErrLarge)
	}
	expectText(t, fact(api.FactCongruent, 0, 1, p, p), x, "v0^2")
	expectText(t, fact(api.FactAngle, 0, 1, 0, 1, 0, p, 0, p), x, "0")
}

// P24.1: facts about points of MaxTerms terms whose polynomials are short: the products of two coordinates are never computed.
func TestPolysOfLongestPoints(t *testing.T) {
	f := horizontal(api.MaxTerms)
	p := len(f.Steps) - 1
	f = add(f, "turn 0 0 "+strconv.Itoa(p)+", free")
	q, d := p+1, p+2
	x := frameOf(t, f)
	for _, g := range []api.Fact{
		fact(api.FactCollinear, p, q, q), fact(api.FactCollinear, q, p, q), fact(api.FactCollinear, p, p, q),
		fact(api.FactParallel, p, q, p, q), fact(api.FactParallel, p, q, q, p), fact(api.FactPerpendicular, 0, p, 0, q),
		fact(api.FactCongruent, p, q, q, p), fact(api.FactCongruent, 0, p, 0, q),
		fact(api.FactConcyclic, p, 0, 1, 0),
		fact(api.FactAngle, p, q, 0, d, p, q, 0, d), fact(api.FactAngle, 0, d, p, q, d, 0, p, q), fact(api.FactAngle, 0, d, 0, p, 0, d, p, 0),
		ratio("1", p, q, p, q), ratio("1", p, 0, 0, q),
	} {
		expectText(t, g, x, "0")
	}
	expectText(t, fact(api.FactCollinear, 1, 0, d), x, "-v0*"+show(x.Coords[d].Y))
}

// P24.1: facts about longer and longer points: Polys returns ErrLarge exactly if a polynomial is too long.
func TestPolysLonger(t *testing.T) {
	times := func(p ...api.Poly) int { return len(poly.Sub(poly.Mul(p[0], p[1]), poly.Mul(p[2], p[3]))) }
	for kind := api.FactCollinear; kind <= api.FactRatio; kind++ {
		met := map[api.Errno]int{}
		steps := "free, free, free, free, online 2 3, online 3 1"
		for last := 5; last < 20 && met[api.ErrLarge] == 0; last++ {
			f := figure(steps)
			x := frameOf(t, f)
			P := func(k int) api.Coord { return x.Coords[last-k] }
			g := fact(kind, last, last-1, last-2, last-3, last-1, last-3, last, last-2)
			cross, dot := hypotheses.Cross, hypotheses.Dot
			terms := 0
			switch kind {
			case api.FactCollinear:
				terms = len(cross(P(0), P(1), P(0), P(2)))
			case api.FactParallel:
				terms = len(cross(P(0), P(1), P(2), P(3)))
			case api.FactPerpendicular:
				terms = len(dot(P(0), P(1), P(2), P(3)))
			case api.FactCongruent:
				terms = len(poly.Sub(dot(P(0), P(1), P(0), P(1)), dot(P(2), P(3), P(2), P(3))))
			case api.FactMidpoint:
				terms = len(poly.Sub(poly.Add(P(1).X, P(2).X), poly.Add(P(0).X, P(0).X)))
			case api.FactConcyclic:
				terms = times(cross(P(1), P(0), P(1), P(2)), dot(P(3), P(0), P(3), P(2)), cross(P(3), P(0), P(3), P(2)), dot(P(1), P(0), P(1), P(2)))
			case api.FactAngle:
				terms = times(cross(P(0), P(1), P(2), P(3)), dot(P(1), P(3), P(0), P(2)), cross(P(1), P(3), P(0), P(2)), dot(P(0), P(1), P(2), P(3)))
			case api.FactSame:
				terms = len(poly.Sub(P(0).X, P(1).X))
			case api.FactRatio:
				g.Ratio = number("-2/3")
				terms = len(poly.Sub(dot(P(0), P(1), P(0), P(1)), poly.Scale(dot(P(2), P(3), P(2), P(3)), g.Ratio)))
			}
			want := api.OK
			if terms > api.MaxTerms {
				want = api.ErrLarge
			}
			met[want]++
			g.Args = g.Args[:predicate.Arity(kind)]
			l, e := goals.Polys(g, x)
			if e != want || e == api.OK && len(l[0]) != terms {
				t.Errorf("Polys returns %d polynomials and %d for %v of %d points with %d terms", len(l), e, g, last+1, terms)
			}
			steps += ", online " + strconv.Itoa(last-2) + " " + strconv.Itoa(last)
		}
		if met[api.OK] < 3 {
			t.Errorf("only %d figures for the kind %d", met[api.OK], kind)
		}
	}
}
