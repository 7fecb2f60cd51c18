package refute_test

import (
	"math"
	"testing"

	"geoprover/api"
	"geoprover/instance"
	"geoprover/poly"
	"geoprover/predicate"
	"geoprover/rational"
	"geoprover/refute"
)

// expectFound fails unless Search with this many tries returns the instance with these values, branches and points, behind as many tries.
func expectFound(t *testing.T, p api.Problem, goal, most int, want string, tries int) {
	t.Helper()
	x, got, e := refute.Search(p, goal, most)
	if showInstance(x) != want || got != tries || e != api.OK {
		t.Errorf("Search of %v, %d, %d returns %s, %d, %d, want %s, %d", p.Figure, goal, most, showInstance(x), got, e, want, tries)
	}
}

// expectError fails unless Search returns this error alone.
func expectError(t *testing.T, p api.Problem, goal, most int, want api.Errno) {
	t.Helper()
	if x, tries, e := refute.Search(p, goal, most); !isZero(x) || tries != 0 || e != want {
		t.Errorf("Search of %v, %d, %d returns %s, %d, %d, want the error %d", p.Figure, goal, most, showInstance(x), tries, e, want)
	}
}

// P27.3: the example of the promise: a counterexample at the first candidate.
func TestSearchExample(t *testing.T) {
	p := sourceOf(t, "points A, B, C; prove congruent(A, B, A, C);")
	for _, most := range []int{1, 2, 1000, api.MaxTries - 1, api.MaxTries} {
		expectFound(t, p, 0, most, "1 -1 1/2;; 0 0 1 0 -1 1/2", 1)
	}
}

// P27.3: counterexamples at later candidates.
func TestSearchLater(t *testing.T) {
	// The parameter t is -1 for the candidates 0 and 1, and 1/2 for 2 and 3.
	p := makeOf(t, figure("free, free, online 0 1 | ratio 0 2 0 1 =1, midpoint 0 1 2, same 0 1, ratio 0 2 0 1 =1/4"))
	expectFound(t, p, 0, 100, "1 1/2;; 0 0 1 0 1/2 0", 3)
	expectFound(t, p, 1, 100, "1 1/2;; 0 0 1 0 1/2 0", 3)
	expectFound(t, p, 2, 100, "1 -1;; 0 0 1 0 -1 0", 1)
	expectFound(t, p, 3, 100, "1 -1;; 0 0 1 0 -1 0", 1)
	for goal := range 2 {
		expectFound(t, p, goal, 3, "1 1/2;; 0 0 1 0 1/2 0", 3)
		expectError(t, p, goal, 2, api.ErrNone)
		expectError(t, p, goal, 1, api.ErrNone)
	}
	// With the branch false the point is the other one on the line, with the branch true it is the second argument again.
	p = makeOf(t, figure("free, free, cut 0 1 0 1 | same 1 2, midpoint 0 1 2"))
	expectFound(t, p, 0, 100, "1;-; 0 0 1 0 -1 0", 1)
	expectFound(t, p, 1, 100, "1;+; 0 0 1 0 1 0", 2)
}

// P27.3: candidates without an instance are tried, too.
func TestSearchWithoutInstance(t *testing.T) {
	// The line is degenerate as long as t is -1/2, for which the digits 3, 7 and so on of the candidate are 0.
	p := makeOf(t, figure("free, free, free, online 0 1, divide 0 1 =-1/2, foot 2 3 4 | same 0 1, congruent 0 1 0 2, parallel 0 1 2 5"))
	for k := range 8 {
		values, _, _ := refute.Nth(p.Figure, k)
		if _, step, e := instance.At(p.Figure, values, nil); step != 5 || e != api.ErrDegenerate {
			t.Fatalf("the candidate %d has an instance", k)
		}
	}
	expectFound(t, p, 0, 100, "1 -1 1/2 2;; 0 0 1 0 -1 1/2 2 0 -1/2 0 -1 0", 9)
	expectFound(t, p, 1, 9, "1 -1 1/2 2;; 0 0 1 0 -1 1/2 2 0 -1/2 0 -1 0", 9)
	expectError(t, p, 0, 8, api.ErrNone)
	// Circles that do not meet, or meet in points that are not rational.
	p = sourceOf(t, "points A, B, C; D := cut(line(A, B), circle(C, B)); E := cross(circle(A, D), circle(B, C)); prove same(D, A);")
	errors := map[api.Errno]int{}
	for k := range 56 {
		values, branches, _ := refute.Nth(p.Figure, k)
		_, _, e := instance.At(p.Figure, values, branches)
		errors[e]++
	}
	if errors[api.OK] > 0 || min(errors[api.ErrDegenerate], errors[api.ErrIrrational], errors[api.ErrNone]) == 0 {
		t.Errorf("the first candidates have the errors %v", errors)
	}
	expectFound(t, p, 0, api.MaxTries, "1/2 1/2 -1;--; 0 0 1/2 0 1/2 -1 1/2 0 -1/2 0", 57)
	expectFound(t, p, 0, 57, "1/2 1/2 -1;--; 0 0 1/2 0 1/2 -1 1/2 0 -1/2 0", 57)
	expectError(t, p, 0, 56, api.ErrNone)
}

// P27.3: no counterexample at all, with all candidates that may be tried, and with none.
func TestSearchNone(t *testing.T) {
	for _, most := range []int{0, 1, 2, 5000, api.MaxTries} {
		expectError(t, makeOf(t, figure("free, free | collinear 0 1 1")), 0, most, api.ErrNone)
		expectError(t, sourceOf(t, "points A, B; C := apex(A, B); prove congruent(A, C, B, C); prove same(A, B);"), 1, most, api.ErrNone)
	}
	for _, s := range []string{
		"points A, B, C; M := midpoint(B, C); N := midpoint(A, C); prove parallel(line(M, N), line(A, B));",
		"points A, B, C; D := foot(A, line(B, C)); prove perpendicular(line(A, D), line(B, C));",
		"points A, B, C; O := center(A, B, C); prove congruent(O, B, O, C);",
		"points A, B; C := on(circle(A, B)); D := on(circle(A, B)); prove congruent(A, C, A, D);",
		"points A, B, C; D := cut(line(A, B), circle(A, C)); E := mirror(C, line(A, B)); prove congruent(A, D, A, E);",
	} {
		expectError(t, sourceOf(t, s), 0, 2000, api.ErrNone)
	}
	p := makeOf(t, figure("free, free, free | congruent 0 1 0 2"))
	expectError(t, p, 0, 0, api.ErrNone)
	expectFound(t, p, 0, 1, "1 -1 1/2;; 0 0 1 0 -1 1/2", 1)
}

// P27.3: figures without parameters, whose candidates are few.
func TestSearchWithoutParameters(t *testing.T) {
	expectError(t, makeOf(t, figure("free | same 0 0")), 0, api.MaxTries, api.ErrNone)
	expectError(t, makeOf(t, figure("free, shift 0 0 0 | same 0 1")), 0, 100, api.ErrNone)
	expectError(t, makeOf(t, figure("free, cut 0 0 0 0, apex 0 0 | same 0 1")), 0, 100, api.ErrNone)
}

// P27.3: goals that only points violate which do not satisfy the problem.
func TestSearchSatisfies(t *testing.T) {
	p := sourceOf(t, "points A, B, C; D := foot(C, line(A, B)); prove perpendicular(line(A, B), line(C, D)); prove collinear(A, B, D);")
	x, _, e := instance.At(p.Figure, []api.Rat{number("4"), number("1"), number("3")}, nil)
	if e != api.OK {
		t.Fatal(e)
	}
	x.Points[3] = api.Point{X: number("2"), Y: number("5")}
	for goal := range 2 {
		violates, _ := instance.Violates(p, goal, x)
		if satisfies, _ := instance.Satisfies(p, x); satisfies || !violates {
			t.Errorf("another point than the foot does not violate the goal %d", goal)
		}
		expectError(t, p, goal, 2000, api.ErrNone)
	}
	// With a further hypothesis or condition the problem is not right, but instances without it are no counterexamples.
	p = makeOf(t, figure("free, free, free | congruent 0 1 0 2"))
	p.Hyps = []api.Poly{poly.Sub(poly.Var(1), poly.Const(number("3/2")))}
	if x, _, e := refute.Search(p, 0, 2000); e != api.OK || rational.Text(x.Values[1]) != "3/2" {
		t.Errorf("with a further hypothesis Search returns %s, %d", showInstance(x), e)
	}
	p.Hyps = nil
	p.Conds = []api.Poly{poly.Add(poly.Var(1), poly.Const(number("1")))}
	if x, tries, e := refute.Search(p, 0, 1000); e != api.OK || tries < 2 || rational.Text(x.Values[1]) == "-1" {
		t.Errorf("with a further condition Search returns %s, %d, %d", showInstance(x), tries, e)
	}
}

// P27.3: no such goal, numbers of tries that are out of range, and both.
func TestSearchErrors(t *testing.T) {
	one := makeOf(t, figure("free, free, free | congruent 0 1 0 2"))
	three := makeOf(t, figure("free, free, free | congruent 0 1 0 2, same 0 1, collinear 0 1 1"))
	apex := sourceOf(t, "points A, B; C := apex(A, B); prove congruent(A, C, B, C);")
	for _, p := range []api.Problem{{}, makeOf(t, figure("free, free")), one, three, apex} {
		for _, goal := range []int{-1, -7, math.MinInt, len(p.Goals), len(p.Goals) + 1, math.MaxInt} {
			for _, most := range []int{0, 1, 100, api.MaxTries, -1, api.MaxTries + 1} {
				expectError(t, p, goal, most, api.ErrRange)
			}
		}
		for goal := range p.Goals {
			for _, most := range []int{-1, -2, math.MinInt, api.MaxTries + 1, api.MaxTries + 2, math.MaxInt} {
				expectError(t, p, goal, most, api.ErrRange)
			}
			expectError(t, p, goal, 0, api.ErrNone)
		}
	}
	expectError(t, apex, 0, api.MaxTries, api.ErrNone)
}

// P27.3: against the definition, for random figures.
func TestSearchRandom(t *testing.T) {
	r := newSource()
	first, later, none := 0, 0, 0
	for range 2 * rounds {
		p := makeOf(t, randomFigure(r, 5))
		const most = 40
		l := attempts(t, p, most)
		for goal := range p.Goals {
			found := -1
			for k, a := range l {
				if a.exists && a.satisfies && a.violates[goal] {
					found = k
					break
				}
			}
			switch {
			case found < 0:
				none++
				expectError(t, p, goal, most, api.ErrNone)
				continue
			case found == 0:
				first++
			default:
				later++
			}
			for _, n := range []int{found + 1, most, api.MaxTries} {
				expectFound(t, p, goal, n, showInstance(l[found].instance), found+1)
			}
		}
	}
	if min(first, later, none) < rounds/6 {
		t.Errorf("%d counterexamples at the first candidate, %d at a later one, and none %d times", first, later, none)
	}
}

// P27.5, P2: what is found satisfies the problem and violates the goal exactly, and is not found with one try less.
func TestSearchLaws(t *testing.T) {
	r := newSource()
	kinds := map[int]int{}
	for range 2 * rounds {
		f := randomFigure(r, 6)
		p := makeOf(t, f)
		for goal, g := range f.Goals {
			x, tries, e := refute.Search(p, goal, 60)
			if e == api.ErrNone {
				continue
			}
			if holds, e := predicate.Holds(g, x.Points); holds || e != api.OK {
				t.Fatalf("the goal %d of %v holds for %s", goal, f, showInstance(x))
			}
			expectSatisfied(t, p, x)
			expectError(t, p, goal, tries-1, api.ErrNone)
			expectFound(t, p, goal, tries, showInstance(x), tries)
			for _, s := range f.Steps {
				kinds[s.Kind]++
			}
		}
	}
	for kind := api.StepFree; kind < api.StepApex; kind++ {
		if kinds[kind] < rounds/6 {
			t.Errorf("only %d steps of the kind %d", kinds[kind], kind)
		}
	}
}
