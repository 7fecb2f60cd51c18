package purity_test

import (
	"testing"

	"geoprover/api"
	"geoprover/coordinates"
	"geoprover/hypotheses"
	"geoprover/lower"
	"geoprover/parser"
	"geoprover/poly"
)

// figures returns figures with steps of all kinds. Some of them are not valid or too large.
func figures(t *testing.T) []api.Figure {
	t.Helper()
	l := []api.Figure{
		{},
		{Steps: []api.Step{{Kind: 77, Args: []int{3, -1}, Ratio: number(t, "1/2")}}},
		{Steps: []api.Step{{Kind: api.StepFree}, {Kind: api.StepApex, Args: []int{0}}}},
	}
	for _, source := range []string{
		"points A, B, C; M := divide(B, C, -2/3); N := shift(M, A, C); P := turn(N, M); Q := on(line(P, M)); R := on(circle(Q, A)); prove ratio(A, P, Q, R, 1/2);",
		"points A, B, C; D := foot(A, line(B, C)); E := mirror(D, line(A, C)); F := meet(line(A, E), line(B, C)); G := other(A, F, B); prove same(D, E);",
		"points A, B, C; O := center(A, B, C); D := cut(line(A, B), circle(O, C)); E := cross(circle(A, B), circle(O, D)); F := apex(A, E);",
		"points A, B; C := foot(A, line(B, B)); D := on(line(C, C)); E := turn(B, B);",
		"points A, B; C := on(circle(A, B)); D := reflect(C, midpoint(A, B));",
	} {
		p, _, e := parser.Program(source)
		if e != api.OK {
			t.Fatalf("the program %q has the error %d", source, e)
		}
		f, _, e := lower.Figure(p)
		if e != api.OK {
			t.Fatalf("the program %q has the error %d", source, e)
		}
		l = append(l, f)
	}
	large := api.Figure{Steps: make([]api.Step, api.MaxPoints)}
	for i := range large.Steps {
		large.Steps[i].Kind = api.StepFree
	}
	return append(l, large)
}

// frames returns the frames of the figures, and others.
func frames(t *testing.T) []api.Frame {
	t.Helper()
	l := []api.Frame{{Coords: []api.Coord{{}, {X: poly.Var(2)}}, Vars: []api.Var{{Kind: 3, Step: 7, Number: -1}, {Kind: 1}}}}
	for _, f := range figures(t) {
		x, _ := coordinates.Of(f)
		l = append(l, x)
	}
	return l
}

func TestCoordinates(t *testing.T) {
	s := samples{}
	for _, f := range figures(t) {
		s.add(f)
	}
	for _, x := range frames(t) {
		s.add(x)
	}
	checkAll(t, s, coordinates.Of, coordinates.Params, coordinates.Names, coordinates.Right)
}

func TestHypotheses(t *testing.T) {
	s := samples{}
	for _, f := range figures(t) {
		s.add(f)
	}
	for _, x := range frames(t) {
		s.add(x)
	}
	for i := -1; i < 9; i++ {
		s.add(i)
	}
	for _, p := range terms(t)[3:7] {
		s.add(api.Coord{X: p}, api.Coord{X: poly.Mul(p, p), Y: p})
	}
	checkAll(t, s, hypotheses.Cross, hypotheses.Dot, hypotheses.Step, hypotheses.Of)
}
