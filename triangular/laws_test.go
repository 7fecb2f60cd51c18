package triangular_test

import (
	"slices"
	"testing"

	"geoprover/api"
	"geoprover/ideal"
	"geoprover/poly"
	"geoprover/pseudo"
	"geoprover/rational"
	"geoprover/triangular"
)

// zerosOf returns the points with small integers as coordinates at which all polynomials in the first three variables vanish.
func zerosOf(polys []api.Poly) [][]api.Rat {
	var points [][]api.Rat
	for n := range 5 * 5 * 5 {
		point := []api.Rat{rational.Of(n%5 - 2), rational.Of(n/5%5 - 2), rational.Of(n/25 - 2)}
		if !slices.ContainsFunc(polys, func(p api.Poly) bool { return !vanishes(p, point) }) {
			points = append(points, point)
		}
	}
	return points
}

// vanishes reports whether p vanishes at the point.
func vanishes(p api.Poly, point []api.Rat) bool {
	value, e := poly.Eval(p, point)
	return e == api.OK && rational.Sign(value) == 0
}

// P11.4: what Make returns is a chain of combinations of the list, which vanish wherever the list does; if there is none, the list has no common zero.
func TestMakeLaws(t *testing.T) {
	r := newSource()
	none, points := 0, 0
	for range 2 * rounds {
		list := randomList(r, 3)
		zeros := zerosOf(list)
		elements, e := triangular.Make(list)
		if e == api.ErrNone {
			none++
			if len(zeros) > 0 {
				t.Fatalf("%s have common zeros", textAll(list))
			}
			continue
		}
		chain := polysOf(elements)
		if e != api.OK || !triangular.Right(chain) {
			t.Fatalf("Make of %s returns %s, %d", textAll(list), textAll(chain), e)
		}
		for _, x := range elements {
			if !ideal.Right(x, list) {
				t.Fatalf("Make of %s returns %s with the cofactors %s", textAll(list), text(x.Poly), textAll(x.Cofactors))
			}
			if p, _ := pseudo.Primitive(x.Poly); !isSame(p, x.Poly) {
				t.Fatalf("Make of %s returns %s", textAll(list), text(x.Poly))
			}
		}
		for _, point := range zeros {
			points++
			if slices.ContainsFunc(chain, func(p api.Poly) bool { return !vanishes(p, point) }) {
				t.Fatalf("Make of %s returns %s", textAll(list), textAll(chain))
			}
		}
	}
	if none < rounds/10 || points < rounds {
		t.Errorf("%d lists without zeros, and %d zeros", none, points)
	}
}

// P11.4: the product of p and the powers of the initials is the combination of the quotients and the chain, and the rest, whose degrees are smaller.
func TestReduceLaws(t *testing.T) {
	r := newSource()
	for range 2 * rounds {
		vars := 1 + r.Intn(4)
		p, chain := randomPoly(r, vars, 5, 3), randomChain(r, vars)
		x, e := triangular.Reduce(p, chain)
		if e != api.OK || len(x.Powers) != len(chain) || len(x.Quotients) != len(chain) {
			t.Fatalf("Reduce of %s by %s returns %v, %s, %d", text(p), textAll(chain), x.Powers, textAll(x.Quotients), e)
		}
		left, right := p, x.Rest
		for i, initial := range triangular.Initials(chain) {
			left = product(left, raised(initial, x.Powers[i]))
			right = sum(right, product(x.Quotients[i], chain[i]))
			if v := pseudo.Main(chain[i]); len(x.Rest) > 0 && pseudo.DegreeIn(x.Rest, v) >= pseudo.DegreeIn(chain[i], v) {
				t.Fatalf("Reduce of %s by %s has the rest %s", text(p), textAll(chain), text(x.Rest))
			}
		}
		expectAll(t, "the sides for "+text(p)+" and "+textAll(chain), []api.Poly{right}, []api.Poly{left})
	}
}

// P11.4: the polynomials of a list are reduced to 0 by its chain, if this is made of elements with the initial 1.
func TestReduceElements(t *testing.T) {
	r := newSource()
	for range rounds {
		x, y, z := randomPoly(r, 1, 3, 2), randomPoly(r, 2, 3, 2), randomPoly(r, 3, 3, 2)
		chain := []api.Poly{sum(power(0, 3), x), sum(power(1, 3), y), sum(power(2, 3), z)}
		p := sum(product(randomPoly(r, 3, 2, 2), chain[0]), product(randomPoly(r, 3, 2, 2), chain[1]), product(randomPoly(r, 3, 2, 2), chain[2]))
		got, e := triangular.Reduce(p, chain)
		if len(got.Rest) > 0 || e != api.OK {
			t.Fatalf("Reduce of %s by %s has the rest %s, %d", text(p), textAll(chain), text(got.Rest), e)
		}
	}
}
