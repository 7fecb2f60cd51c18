package poly_test

import (
	"math"
	"slices"
	"testing"

	"geoprover/api"
	"geoprover/poly"
)

// P6.1
func TestRight(t *testing.T) {
	one, minusZero := number("1"), api.Rat{Num: api.Int{Neg: true}, Den: api.Nat{1}}
	for _, p := range []api.Poly{
		nil, {}, read("1"), read("-1/2*x"), read("-y^2 + x^2"), read("x*y^2 - 3/4*y^2 + x^9*y - 1/7"), dense(api.MaxTerms + 1), power(api.MaxVars-1, api.MaxExp),
	} {
		if !poly.Right(p) {
			t.Errorf("Right(%v) is false", p)
		}
	}
	for _, p := range []api.Poly{
		{{}},
		{{Mono: mono(1)}},
		{{Coef: number("0"), Mono: mono(1)}},
		{{Coef: minusZero}},
		{{Coef: raw(2, 4)}},
		{{Coef: raw(2, 0)}},
		{{Coef: one, Mono: api.Mono{0}}},
		{{Coef: one, Mono: api.Mono{1, 0}}},
		{{Coef: one, Mono: api.Mono{-1}}},
		{{Coef: one, Mono: api.Mono{api.MaxExp + 1}}},
		power(api.MaxVars, 1),
		{{Coef: one, Mono: mono(1)}, {Coef: one, Mono: mono(1)}},
		{{Coef: one, Mono: mono(1)}, {Coef: one, Mono: mono(2)}},
		{{Coef: one, Mono: mono(2)}, {Coef: one, Mono: mono(0, 1)}},
		{{Coef: one}, {Coef: one, Mono: mono(1)}},
		append(read("y + x"), api.Term{}),
		append(read("y + x"), read("x")...),
	} {
		if poly.Right(p) {
			t.Errorf("Right(%v) is true", p)
		}
	}
}

// P6.1
func TestNorm(t *testing.T) {
	term := func(coef api.Rat, exponents ...int) api.Term { return api.Term{Coef: coef, Mono: exponents} }
	one, half := number("1"), number("1/2")
	for _, x := range []struct {
		l    []api.Term
		want api.Poly
	}{
		{nil, nil},
		{[]api.Term{{}}, nil},
		{[]api.Term{term(half, 1), term(half, 1), term(number("-1"))}, read("x - 1")},
		{[]api.Term{term(half, 1), term(one, 2), term(number("-1/2"), 1), term(number("-1"), 2)}, nil},
		{[]api.Term{term(one), term(one, 5), term(one, 0, 1)}, read("y + x^5 + 1")},
		{[]api.Term{term(one, 1, 0, 0), term(one, 1), term(half, 0), term(half, 0, 0)}, read("2*x + 1")},
		{[]api.Term{term(one, 1, -1), term(one, 1, -1, 0), term(one, -1), term(one, api.MaxExp+1), term(one, 2)}, read("x^2")},
		{[]api.Term{term(one, slices.Repeat([]int{1}, api.MaxVars+1)...), term(one, 1)}, read("x")},
		{[]api.Term{term(one, append(power(api.MaxVars-1, 1)[0].Mono, 0, 0)...)}, power(api.MaxVars-1, 1)},
		{[]api.Term{term(one, api.MaxExp, 0)}, power(0, api.MaxExp)},
		{[]api.Term{term(raw(2, 4), 1), term(raw(5, 0), 2), term(api.Rat{}, 3), term(number("0"), 4)}, read("1/2*x")},
		{[]api.Term{term(raw(5, 0), 2), term(raw(6, 2), 2)}, read("3*x^2")},
		{[]api.Term{term(api.Rat{Num: api.Int{Neg: true, Abs: api.Nat{0}}, Den: api.Nat{7}}, 1)}, nil},
		{[]api.Term{term(api.Rat{Num: api.Int{Abs: api.Nat{3, 0}}, Den: api.Nat{1, 0}}, 1)}, read("3*x")},
	} {
		expect(t, "Norm", poly.Norm(x.l), x.want)
	}
}

// P6.1: the order and the division of terms do not matter.
func TestNormRandom(t *testing.T) {
	r := newSource()
	for range rounds {
		p, q := randomPoly(r, 20, 3), randomPoly(r, 20, 3)
		l := slices.Concat(p, q, p)
		r.Shuffle(len(l), func(i, j int) { l[i], l[j] = l[j], l[i] })
		expect(t, "Norm", poly.Norm(l), toSum(p).plus(toSum(p), 1).plus(toSum(q), 1).poly())
	}
}

// P6.2
func TestConst(t *testing.T) {
	for _, x := range []struct {
		a    api.Rat
		want api.Poly
	}{
		{number("5"), read("5")},
		{number("-2/3"), read("-2/3")},
		{number("0"), nil},
		{api.Rat{}, nil},
		{raw(7, 0), nil},
		{raw(0, 7), nil},
		{raw(6, 4), read("3/2")},
	} {
		expect(t, "Const", poly.Const(x.a), x.want)
	}
}

// P6.2
func TestVar(t *testing.T) {
	expect(t, "Var", poly.Var(0), read("x"))
	expect(t, "Var", poly.Var(2), read("z"))
	expect(t, "Var", poly.Var(api.MaxVars-1), power(api.MaxVars-1, 1))
	for _, v := range []int{-1, api.MaxVars, math.MaxInt, math.MinInt} {
		expect(t, "Var", poly.Var(v), nil)
	}
}

// P6.3
func TestCmp(t *testing.T) {
	ascending := []api.Poly{
		nil, read("-1"), read("-1/2"), read("1/3"), read("1/2"), read("2"),
		read("-x"), read("-x - 1"), read("-x + 1"), read("x"), read("x - 1"), read("x + 1"), read("2*x"), read("2*x + 1"),
		read("x^2"), read("x^2 - 5*x"), read("x^2 - x"), read("x^2 + x"), read("x^2 + x + 1"), read("x^7"),
		read("-y"), read("y"), read("y + 1"), read("y + x"), read("x*y"), read("y^2"), read("z"),
	}
	for i, p := range ascending {
		for j, q := range ascending {
			want := 0
			if i < j {
				want = -1
			} else if i > j {
				want = 1
			}
			if got := poly.Cmp(p, q); got != want {
				t.Errorf("Cmp(%v, %v) = %d", p, q, got)
			}
			if got := poly.Equal(p, q); got != (i == j) {
				t.Errorf("Equal(%v, %v) = %v", p, q, got)
			}
		}
	}
}

// P6.6
func TestDegreeVars(t *testing.T) {
	for _, x := range []struct {
		p      api.Poly
		degree int
		vars   []int
	}{
		{nil, -1, nil},
		{read("7"), 0, nil},
		{read("x + 1"), 1, []int{0}},
		{read("y + x^2"), 2, []int{0, 1}},
		{read("z + x^3*y^2*z"), 6, []int{0, 1, 2}},
		{read("w^2 + x^3 + 1"), 3, []int{0, 3}},
		{power(api.MaxVars-1, api.MaxExp), api.MaxExp, []int{api.MaxVars - 1}},
	} {
		if got := poly.Degree(x.p); got != x.degree {
			t.Errorf("Degree(%v) = %d", x.p, got)
		}
		if got := poly.Vars(x.p); !slices.Equal(got, x.vars) {
			t.Errorf("Vars(%v) = %v", x.p, got)
		}
	}
}

// P6.6
func TestLead(t *testing.T) {
	for _, x := range []struct{ p, lex, degLex api.Poly }{
		{read("-3/2"), read("-3/2"), read("-3/2")},
		{read("y + x^2"), read("y"), read("x^2")},
		{read("2*y + 3*x"), read("2*y"), read("2*y")},
		{read("y^2 + 5*x^3*y - x^4 + x^4*y"), read("y^2"), read("x^4*y")},
		{read("z - 2*x*y + y^2 + x^2"), read("z"), read("y^2")},
	} {
		for order, want := range map[int]api.Poly{api.Lex: x.lex, api.DegLex: x.degLex, 2: x.lex, -1: x.lex, math.MaxInt: x.lex} {
			got, ok := poly.Lead(x.p, order)
			expect(t, "Lead", api.Poly{got}, want)
			if !ok {
				t.Errorf("Lead of %v returns false", x.p)
			}
		}
	}
	for _, order := range []int{api.Lex, api.DegLex, 9} {
		if got, ok := poly.Lead(nil, order); !sameTerm(got, api.Term{}) || ok {
			t.Errorf("Lead of 0 is %v, %v", got, ok)
		}
	}
}
