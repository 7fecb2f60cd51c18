package hypotheses_test

import (
	"math/rand"
	"testing"

	"geoprover/api"
	"geoprover/hypotheses"
	"geoprover/poly"
	"geoprover/rational"
)

// expectVectors fails unless Cross and Dot return the polynomials with these texts for the four points.
func expectVectors(t *testing.T, a, b, c, d, cross, dot string) {
	t.Helper()
	if got := show(hypotheses.Cross(coord(a), coord(b), coord(c), coord(d))); got != cross {
		t.Errorf("Cross of %s; %s; %s; %s is %s, want %s", a, b, c, d, got, cross)
	}
	if got := show(hypotheses.Dot(coord(a), coord(b), coord(c), coord(d))); got != dot {
		t.Errorf("Dot of %s; %s; %s; %s is %s, want %s", a, b, c, d, got, dot)
	}
}

// P22.1: the example, with v, w and u as the variables 0, 1 and 2.
func TestVectorsExample(t *testing.T) {
	expectVectors(t, "0, 0", "v0, 0", "0, 0", "v1, v2", "v0*v2", "v0*v1")
}

// P22.1: constants.
func TestVectorsOfConstants(t *testing.T) {
	expectVectors(t, "0, 0", "1, 2", "1, 0", "4, 4", "-2", "11")
	expectVectors(t, "0, 0", "0, 0", "0, 0", "0, 0", "0", "0")
	expectVectors(t, "1/2, -1/3", "1, 0", "0, 2/3", "5, 2/3", "-5/3", "5/2")
	expectVectors(t, "1, 1", "3, 1", "0, 7", "0, 8", "2", "0")
	expectVectors(t, "1, 1", "3, 1", "7, 0", "4, 0", "0", "-6")
	expectVectors(t, "-4, 2", "-4, 5", "1, 1", "2, 1", "-3", "0")
}

// P22.1: equal points.
func TestVectorsOfEqualPoints(t *testing.T) {
	expectVectors(t, "v0, v1", "v0, v1", "v2, v3", "v4, v5", "0", "0")
	expectVectors(t, "v2, v3", "v4, v5", "v0, v1", "v0, v1", "0", "0")
	expectVectors(t, "v0, v1", "v2, v3", "v0, v1", "v2, v3", "0", "v3^2 - 2*v1*v3 + v2^2 - 2*v0*v2 + v1^2 + v0^2")
	expectVectors(t, "v0, v1", "v2, v3", "v2, v3", "v0, v1", "0", "-v3^2 + 2*v1*v3 - v2^2 + 2*v0*v2 - v1^2 - v0^2")
	expectVectors(t, "v0, v1", "v2, 0", "v0, v1", "0, v3", "v2*v3 - v0*v3 - v1*v2", "-v1*v3 - v0*v2 + v1^2 + v0^2")
	expectVectors(t, "v0, v1", "v0, v1", "v0, v1", "v0, v1", "0", "0")
}

// P22.1: terms that cancel, within a coordinate, and between products.
func TestVectorsThatCancel(t *testing.T) {
	expectVectors(t, "v0, 0", "v0 + v1, 1", "0, 0", "v0 - v1, 1", "2*v1 - v0", "-v1^2 + v0*v1 + 1")
	expectVectors(t, "0, 0", "v1 + v0, 1", "0, 0", "v1 - v0, v0^2", "v0^2*v1 - v1 + v0^3 + v0", "v1^2")
	expectVectors(t, "0, 0", "v0, v1", "0, 0", "-v1, v0", "v1^2 + v0^2", "0")
	expectVectors(t, "0, 0", "v0, v1", "0, 0", "2*v0, 2*v1", "0", "2*v1^2 + 2*v0^2")
	expectVectors(t, "v2^3, 1/3*v5", "v2^3 + 1, 1/3*v5 + v7", "v7, v1", "v7 + 3, v1", "-3*v7", "3")
	expectVectors(t, "v63^1048576, 0", "0, 0", "v63^1048576, v0", "v63^1048576 + 1, v0", "0", "-v63^1048576")
}

// randomPoly returns a polynomial of few variables and terms.
func randomPoly(r *rand.Rand) api.Poly {
	var l []api.Term
	for range r.Intn(5) {
		l = append(l, api.Term{Coef: rational.Frac(r.Intn(7)-3, 1+r.Intn(2)), Mono: api.Mono{r.Intn(3), r.Intn(2), r.Intn(4)}})
	}
	return poly.Norm(l)
}

// P22.1: random points.
func TestVectorsRandom(t *testing.T) {
	r := newSource()
	for range rounds {
		var c [4]api.Coord
		var p [4]place
		for i := range c {
			c[i] = api.Coord{X: randomPoly(r), Y: randomPoly(r)}
			p[i] = placeOf(c[i])
		}
		if got := hypotheses.Cross(c[0], c[1], c[2], c[3]); !equals(got, cross(p[0], p[1], p[2], p[3])) {
			t.Fatalf("Cross of %v is %s", c, show(got))
		}
		if got := hypotheses.Dot(c[0], c[1], c[2], c[3]); !equals(got, dot(p[0], p[1], p[2], p[3])) {
			t.Fatalf("Dot of %v is %s", c, show(got))
		}
	}
}

// P22.1: results with more than MaxTerms terms.
func TestLongVectors(t *testing.T) {
	var x, y api.Poly
	for v := range 32 {
		x = poly.Add(x, poly.Var(v))
		y = poly.Add(y, poly.Var(32+v))
	}
	square := poly.Mul(x, x)
	b, d := api.Coord{X: square, Y: y}, api.Coord{X: y, Y: x}
	if p := hypotheses.Cross(api.Coord{}, b, api.Coord{}, d); !equals(p, of(square).times(of(x)).minus(of(y).times(of(y)))) || len(p) <= api.MaxTerms {
		t.Errorf("Cross has %d terms", len(p))
	}
	if p := hypotheses.Dot(api.Coord{}, b, api.Coord{}, d); !equals(p, of(square).times(of(y)).plus(of(x).times(of(y)))) || len(p) <= api.MaxTerms {
		t.Errorf("Dot has %d terms", len(p))
	}
}
