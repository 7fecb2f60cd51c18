package purity_test

import (
	"testing"

	"geoprover/api"
	"geoprover/monomial"
	"geoprover/poly"
	"geoprover/polytext"
	"geoprover/pseudo"
	"geoprover/rational"
)

func TestMonomial(t *testing.T) {
	s := samples{}
	s.add(-1, 0, 1, 2, 64)
	s.add(api.Mono(nil), api.Mono{}, api.Mono{2}, api.Mono{0, 1}, api.Mono{2, 1}, api.Mono{2, 1, 3}, api.Mono{api.MaxExp})
	checkAll(t, s, monomial.Degree, monomial.Exp, monomial.Main, monomial.Mul, monomial.Divides, monomial.Quo, monomial.Lcm, monomial.Coprime, monomial.Cmp)
	s.add(api.Mono{0}, api.Mono{1, 0, 0}, api.Mono{1, -1}, api.Mono{api.MaxExp + 1})
	checkAll(t, s, monomial.Right, monomial.Norm)
}

// terms returns lists of terms that are valid polynomials.
func terms(t *testing.T) []api.Poly {
	t.Helper()
	one, c := number(t, "1"), number(t, "-12345678901234567890/77")
	return []api.Poly{
		nil,
		{},
		{{Coef: one}},
		{{Coef: c, Mono: api.Mono{}}},
		{{Coef: number(t, "-1"), Mono: api.Mono{1}}, {Coef: one}},
		{{Coef: one, Mono: api.Mono{1}}, {Coef: c}},
		{{Coef: one, Mono: api.Mono{0, 1}}, {Coef: c, Mono: api.Mono{2}}, {Coef: one, Mono: api.Mono{1}}},
		{{Coef: rational.Neg(c), Mono: api.Mono{0, 2}}, {Coef: one, Mono: api.Mono{2}}},
	}
}

func TestPoly(t *testing.T) {
	s := samples{}
	s.add(-1, 0, 1, 2, 3, 64)
	s.add(api.Rat{}, number(t, "1"), number(t, "-1"), number(t, "3/4"))
	s.add([]api.Rat(nil), []api.Rat{number(t, "2/3")}, []api.Rat{number(t, "5"), number(t, "-1/2")})
	for _, p := range terms(t) {
		s.add(p)
	}
	checkAll(t, s, poly.Const, poly.Var, poly.Equal, poly.Cmp, poly.Neg, poly.Add, poly.Sub, poly.Mul, poly.Scale, poly.Pow, poly.Degree, poly.Vars, poly.Lead, poly.Eval, poly.Subst)
	wrong := api.Poly{{Coef: number(t, "2"), Mono: api.Mono{0, 0}}, {Coef: api.Rat{}, Mono: api.Mono{1, 0}}, {Coef: number(t, "3/4"), Mono: api.Mono{1, -1}}, {Coef: number(t, "5"), Mono: api.Mono{0, 3, 0}}}
	for _, p := range append(terms(t), wrong) {
		s.add(p, []api.Term(p))
	}
	checkAll(t, s, poly.Right, poly.Norm)
}

func TestPolytext(t *testing.T) {
	s := samples{}
	s.add("", "0", "-1/2*x^2*y + 3 - y", "y*x + 2*x*y - x^0", "x + ", "x+1", "1/0", "z", "x^1048577", "12345678901234567890123/7*y")
	s.add([]string(nil), []string{"x", "y"}, []string{"x", "y", "x"}, []string{"x", "1"}, []string{"z", "y", "x"})
	for _, p := range terms(t) {
		s.add(p)
	}
	s.add(api.Poly{{Mono: api.Mono{0}}})
	read := func(text string, names []string) (api.Poly, api.Errno) { // without the offset, which belongs to the error
		p, _, e := polytext.Read(text, names)
		return p, e
	}
	offset := func(text string, names []string) int {
		_, at, _ := polytext.Read(text, names)
		return at
	}
	checkAll(t, s, polytext.Print, read, offset)
}

func TestPseudo(t *testing.T) {
	s := samples{}
	s.add(-1, 0, 1, 2, 63, 64)
	polys := terms(t)
	for i, p := range polys {
		s.add(p, poly.Mul(p, polys[(i+1)%len(polys)]), polys[i:], polys[:i])
	}
	checkAll(t, s, pseudo.Main, pseudo.DegreeIn, pseudo.Coefs, pseudo.Join, pseudo.Initial, pseudo.Divide, pseudo.Exact, pseudo.Primitive)
}
