package purity_test

import (
	"math"
	"testing"

	"geoprover/api"
	"geoprover/fresh"
	"geoprover/instance"
	"geoprover/poly"
	"geoprover/problem"
	"geoprover/refute"
	"geoprover/wu"
)

// problems returns the problems of figures, and others.
func problems(t *testing.T) []api.Problem {
	t.Helper()
	var l []api.Problem
	for _, f := range figures(t) {
		p, _ := problem.Make(f)
		l = append(l, p, api.Problem{Figure: f, Conds: p.Hyps, Goals: [][]api.Poly{p.Hyps, nil}})
	}
	return l
}

// instances returns instances of figures with up to 9 points, and others.
func instances(t *testing.T) []api.Instance {
	t.Helper()
	l := []api.Instance{{}, {Points: places(t), Branches: []bool{true}}}
	for _, f := range figures(t) {
		params, branches, e := instance.Choices(f)
		if e != api.OK {
			continue
		}
		x, _, _ := instance.At(f, choices(t, params), make([]bool, branches))
		l = append(l, x, api.Instance{Values: choices(t, params), Points: append(places(t), places(t)...)[:min(len(f.Steps), 9)]})
	}
	return l
}

// choices returns n values of parameters.
func choices(t *testing.T, n int) []api.Rat {
	t.Helper()
	var l []api.Rat
	for i := range n {
		l = append(l, []api.Rat{number(t, "4"), number(t, "1"), number(t, "-7/3"), number(t, "12345678901234567890")}[i%4])
	}
	return l
}

func TestProblem(t *testing.T) {
	s := samples{}
	for _, f := range figures(t) {
		s.add(f)
	}
	for _, p := range problems(t) {
		s.add(p)
	}
	for _, source := range []string{
		"", "points A, B; prove same(A, B);", "points A, B, C; O := center(A, B, C); P := divide(O, A, -1/3); prove ratio(A, P, B, C, 2/3);", "points A, B, A;", "points A; B := ;", "prove same(A, A);",
	} {
		s.add(source)
	}
	source := func(text string) (api.Problem, api.Errno) { // without the number, which belongs to the error
		p, _, e := problem.Source(text)
		return p, e
	}
	at := func(text string) int {
		_, at, _ := problem.Source(text)
		return at
	}
	checkAll(t, s, problem.Make, source, at, problem.Right, problem.Equal, problem.Text)
}

func TestInstance(t *testing.T) {
	s := samples{}
	for _, f := range figures(t) {
		s.add(f)
	}
	for _, p := range problems(t) {
		s.add(p)
	}
	for _, x := range instances(t) {
		s.add(x)
	}
	s.add(-1, 0, 1)
	for n := range 7 {
		s.add(choices(t, n))
	}
	s.add([]bool(nil), []bool{true}, []bool{false, true})
	at := func(f api.Figure, values []api.Rat, branches []bool) (api.Instance, api.Errno) { // without the step, which belongs to the error
		x, _, e := instance.At(f, values, branches)
		return x, e
	}
	step := func(f api.Figure, values []api.Rat, branches []bool) int {
		_, step, _ := instance.At(f, values, branches)
		return step
	}
	checkAll(t, s, instance.Choices, at, step, instance.Values, instance.Satisfies, instance.Violates, instance.Text)
}

func TestFresh(t *testing.T) {
	s := samples{}
	for _, f := range figures(t) {
		s.add(f)
	}
	for n := range 5 {
		s.add(choices(t, n))
	}
	s.add(number(t, "0"), number(t, "-12345678901234567890/7"), api.Rat{})
	checkAll(t, s, fresh.Rat, fresh.Rats, fresh.Figure)
}

func TestRefute(t *testing.T) {
	s := samples{}
	for _, f := range figures(t) {
		s.add(f)
	}
	for _, p := range problems(t) {
		s.add(p)
	}
	s.add(-1, 0, 1, 2, 40, api.MaxTries+1, math.MaxInt)
	checkAll(t, s, refute.Value, refute.Nth, refute.Search, refute.Sample)
}

func TestWu(t *testing.T) {
	s := samples{}
	for _, p := range problems(t) {
		s.add(p)
	}
	x, y, z := poly.Var(0), poly.Var(1), poly.Var(2)
	one := poly.Const(number(t, "1"))
	hyps := []api.Poly{poly.Sub(poly.Mul(x, y), one), poly.Sub(z, y), nil, poly.Add(z, y)}
	s.add(
		api.Problem{Hyps: hyps[:3], Goals: [][]api.Poly{{poly.Mul(z, hyps[0]), poly.Sub(y, z), nil}, {y, hyps[0]}, {poly.Const(number(t, "1/2"))}}},
		api.Problem{Hyps: hyps, Goals: [][]api.Poly{{x}}}, // without a common zero
		api.Problem{Hyps: hyps[1:3], Goals: [][]api.Poly{{poly.Mul(y, hyps[1])}, {{{Mono: api.Mono{-1}}}}}},
		api.Problem{Goals: [][]api.Poly{{nil, nil}, {x, hyps[1]}, nil}},
	)
	for _, f := range figures(t) {
		f.Goals = []api.Fact{{Kind: api.FactSame, Args: []int{0, 0}}, {Kind: api.FactCollinear, Args: []int{1, 2, 3}}, {Kind: api.FactPerpendicular, Args: []int{0, 3, 1, 2}}}
		p, _ := problem.Make(f)
		s.add(p)
	}
	s.add(-1, 0, 1, 2, 3)
	checkAll(t, s, wu.Chain, wu.Rest, wu.Prove)
}
