package instance_test

import (
	"slices"
	"testing"

	"geoprover/api"
	"geoprover/conditions"
	"geoprover/instance"
	"geoprover/poly"
	"geoprover/predicate"
)

// eval returns the value of p.
func eval(t *testing.T, p api.Poly, values []api.Rat) api.Rat {
	t.Helper()
	a, e := poly.Eval(p, values)
	if e != api.OK {
		t.Fatalf("%v has no value: %d", p, e)
	}
	return a
}

// expectLaws fails unless the instance x of f satisfies the problem, violates the goals that do not hold, and fulfils all conditions. It returns how many goals hold.
func expectLaws(t *testing.T, f api.Figure, x api.Instance) int {
	t.Helper()
	p := makeOf(t, f)
	expectSatisfies(t, p, x, true)
	count := 0
	for goal, g := range f.Goals {
		holds, e := predicate.Holds(g, x.Points)
		if e != api.OK {
			t.Fatal(e)
		}
		expectViolates(t, p, goal, x, !holds, api.OK)
		if holds {
			count++
		}
	}
	l, e := conditions.Of(f)
	if e != api.OK {
		t.Fatal(e)
	}
	for _, c := range l {
		if holds, e := conditions.Holds(c, x.Points); !holds || e != api.OK {
			t.Errorf("the condition %v of %v does not hold for %s", c, f, showPoints(x.Points))
		}
	}
	return count
}

// P26.7 to P26.9, P5: random figures.
func TestLaws(t *testing.T) {
	r := newSource()
	kinds := map[int]int{}
	goals, holding := 0, 0
	for range 20 * rounds {
		f := randomFigure(r, 6)
		values, branches := randomChoices(t, r, f)
		x, _, e := instance.At(f, values, branches)
		if e != api.OK {
			continue
		}
		goals += len(f.Goals)
		holding += expectLaws(t, f, x)
		for _, s := range f.Steps {
			kinds[s.Kind]++
		}
	}
	for kind := api.StepFree; kind < api.StepApex; kind++ {
		if kinds[kind] < rounds/6 {
			t.Errorf("only %d steps of the kind %d", kinds[kind], kind)
		}
	}
	if holding < goals/20 || holding > 19*goals/20 {
		t.Errorf("%d of %d goals hold", holding, goals)
	}
}

// P26.7 to P26.9, P5: figures with several steps that have two solutions, for all branches.
func TestLawsOfBranches(t *testing.T) {
	for _, c := range []struct{ steps, values string }{
		{"free, free, free, free, cut 0 1 2 3 | collinear 0 1 4, congruent 2 3 2 4, same 4 0", "7 2 3 6 6"},
		{"free, free, free, free, cross 0 2 1 3, cross 1 3 0 2 | congruent 0 2 0 4, same 4 5, parallel 4 5 0 1, perpendicular 4 5 0 1", "6 3 4 9 4"},
		{"free, free, turn 1 1 0, cut 1 2 1 0, foot 1 0 3, cut 0 3 4 1, meet 0 2 1 3 | midpoint 1 2 3, concyclic 0 1 2 3, same 5 1", "4"},
		{"free, free, cut 0 1 0 1, cut 0 1 1 0, cut 1 0 0 1 | same 2 1, same 2 3, ratio 0 3 0 1 =4, midpoint 0 1 2", "-3/2"},
		{"free, free, oncircle 0 1, cross 0 2 1 2, cut 0 1 3 0 | angle 0 1 0 2 0 3 0 1, congruent 1 2 1 3, same 4 0", "3 2"},
	} {
		f := figure(c.steps)
		_, n, _ := instance.Choices(f)
		met := 0
		for k := range 1 << n {
			branches := make([]bool, n)
			for i := range branches {
				branches[i] = k>>i&1 == 1
			}
			if x, _, e := instance.At(f, numbers(c.values), branches); e == api.OK {
				expectLaws(t, f, x)
				met++
			}
		}
		if n == 0 || met < 2 {
			t.Errorf("%s with %d branches has %d instances at %s", c.steps, n, met, c.values)
		}
	}
}

// P26.7, P26.9, P5: an instance exists exactly if no step is degenerate and all points are rational: an instance of the points with a degenerate step does not satisfy the problem.
func TestLawsOfDegenerateSteps(t *testing.T) {
	r := newSource()
	count := 0
	for range 20 * rounds {
		f := randomFigure(r, 4)
		values, branches := randomChoices(t, r, f)
		_, step, e := instance.At(f, values, branches)
		if e != api.ErrDegenerate {
			continue
		}
		before := api.Figure{Steps: f.Steps[:step]}
		n, m, _ := instance.Choices(before)
		x := atOf(t, before, values[:n], branches[:m])
		l, _ := conditions.Of(api.Figure{Steps: f.Steps[:step+1]})
		if holds, e := conditions.Holds(l[len(l)-1], x.Points); holds || e != api.OK {
			t.Fatalf("the step %d of %v is degenerate, but its condition holds for %s", step, f, showPoints(x.Points))
		}
		p := makeOf(t, api.Figure{Steps: f.Steps[:step+1]})
		for _, point := range points("0 0 1 2 -3 4") {
			y := api.Instance{Values: x.Values, Branches: branches[:m], Points: append(slices.Clip(x.Points), point)}
			expectSatisfies(t, p, y, false)
		}
		count++
	}
	if count < rounds {
		t.Errorf("only %d degenerate steps", count)
	}
}

// P26.8: theorems of DOC.md hold at all instances, and their goals are never violated.
func TestTheorems(t *testing.T) {
	r := newSource()
	for _, s := range []string{
		"free, free, free, divide 1 2 =1/2, divide 0 2 =1/2 | parallel 3 4 0 1",
		"free, free, free, divide 1 2 =1/2, divide 0 2 =1/2, meet 0 3 1 4, divide 0 1 =1/2 | collinear 2 5 6",
		"free, free, free, foot 0 1 2 | perpendicular 0 3 1 2",
		"free, free, free, center 0 1 2 | congruent 3 1 3 2",
		"free, free, oncircle 0 1, oncircle 0 1, oncircle 0 1 | concyclic 1 2 3 4, angle 4 1 4 2 3 1 3 2",
		"free, free, cut 0 1 0 1 | congruent 0 1 0 2, collinear 0 1 2",
	} {
		f := figure(s)
		met := 0
		for range rounds / 6 {
			values, branches := randomChoices(t, r, f)
			x, _, e := instance.At(f, values, branches)
			if e != api.OK {
				continue
			}
			met++
			if expectLaws(t, f, x) != len(f.Goals) {
				t.Errorf("the theorem %s does not hold for %s", s, showPoints(x.Points))
			}
		}
		if met < rounds/20 {
			t.Errorf("only %d instances of %s", met, s)
		}
	}
	f := figure("free, free, free | congruent 0 1 0 2")
	expectViolates(t, makeOf(t, f), 0, atOf(t, f, numbers("1 2 3"), nil), true, api.OK)
}
