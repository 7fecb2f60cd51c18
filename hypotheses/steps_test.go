package hypotheses_test

import (
	"math"
	"strings"
	"testing"

	"geoprover/api"
	"geoprover/hypotheses"
	"geoprover/lower"
	"geoprover/parser"
)

// triangle is the steps of the points (0, 0), (v0, 0) and (v1, v2).
const triangle = "free, free, free, "

// expectStep fails unless Step returns for the last step of the figure the hypotheses with the text want, and Of returns the same ones.
func expectStep(t *testing.T, steps, want string) {
	t.Helper()
	f := figure(steps)
	l := stepOf(t, f, frameOf(t, f), len(f.Steps)-1)
	if got := show(l...); got != want {
		t.Errorf("Step of %s is\n%s, want\n%s", steps, got, want)
	}
	expectOf(t, f, want)
}

// P22.2, P22.3: the example of the chapter, also from a program.
func TestStepExample(t *testing.T) {
	expectStep(t, triangle+"foot 2 0 1", "v0*v4; v0*v3 - v0*v1")
	p, _, _ := parser.Program("points A, B, C; F := foot(C, line(A, B)); prove collinear(A, B, F);")
	f, _, e := lower.Figure(p)
	if e != api.OK {
		t.Fatal(e)
	}
	expectOf(t, f, "v0*v4; v0*v3 - v0*v1")
}

// P22.2: every kind of step that has hypotheses, in their order.
func TestStepKinds(t *testing.T) {
	for step, want := range map[string]string{
		"oncircle 0 1":  "v3^2*v4 + v4 - v0*v3^2 + v0; v3^2*v5 + v5 + 2*v0*v3",
		"oncircle 2 1":  "v3^2*v4 + v4 - v0*v3^2 - 2*v2*v3 - 2*v1 + v0; v3^2*v5 + v5 - 2*v2*v3^2 - 2*v1*v3 + 2*v0*v3",
		"oncircle 1 2":  "v3^2*v4 + v4 - v1*v3^2 + 2*v2*v3 + v1 - 2*v0; v3^2*v5 + v5 + v2*v3^2 + 2*v1*v3 - 2*v0*v3 - v2",
		"foot 0 1 2":    "v1*v4 - v0*v4 - v2*v3 + v0*v2; v2*v4 + v1*v3 - v0*v3",
		"foot 2 1 0":    "-v0*v4; -v0*v3 + v0*v1",
		"mirror 2 0 1":  "v0*v3 - v0*v1; v0*v4 + v0*v2",
		"mirror 0 1 2":  "v2*v4 + v1*v3 - v0*v3; v1*v4 - v0*v4 - v2*v3 + 2*v0*v2",
		"meet 0 1 1 2":  "v0*v4; v1*v4 - v0*v4 - v2*v3 + v0*v2",
		"meet 2 1 1 0":  "-v1*v4 + v0*v4 + v2*v3 - v0*v2; -v0*v4",
		"other 0 1 2":   "v0^2*v3 - 2*v0^2*v1; v0^2*v4",
		"other 1 0 2":   "v0^2*v3 - 2*v0^2*v1 + v0^3; v0^2*v4",
		"other 0 2 1":   "v2^2*v3 + v1^2*v3 - 2*v0*v1^2; v2^2*v4 + v1^2*v4 - 2*v0*v1*v2",
		"center 0 1 2":  "2*v0*v3 - v0^2; 2*v2*v4 + 2*v1*v3 - v2^2 - v1^2",
		"center 1 0 2":  "-2*v0*v3 + v0^2; 2*v2*v4 + 2*v1*v3 - 2*v0*v3 - v2^2 - v1^2 + v0^2",
		"cut 0 1 2 1":   "v0*v4; v4^2 - 2*v2*v4 + v3^2 - 2*v1*v3 + 2*v0*v1 - v0^2",
		"cut 2 1 0 1":   "-v1*v4 + v0*v4 + v2*v3 - v0*v2; v4^2 + v3^2 - v0^2",
		"cross 0 1 1 2": "v4^2 + v3^2 - v0^2; v4^2 + v3^2 - 2*v0*v3 - v2^2 - v1^2 + 2*v0*v1",
		"cross 1 2 0 1": "v4^2 + v3^2 - 2*v0*v3 - v2^2 - v1^2 + 2*v0*v1; v4^2 + v3^2 - v0^2",
		"cross 0 2 2 1": "v4^2 + v3^2 - v2^2 - v1^2; v4^2 - 2*v2*v4 + v3^2 - 2*v1*v3 + 2*v0*v1 - v0^2",
		"apex 0 1":      "v4^2 + v3^2 - v0^2; v4^2 + v3^2 - 2*v0*v3",
		"apex 1 0":      "v4^2 + v3^2 - 2*v0*v3; v4^2 + v3^2 - v0^2",
		"apex 0 2":      "v4^2 + v3^2 - v2^2 - v1^2; v4^2 - 2*v2*v4 + v3^2 - 2*v1*v3",
	} {
		expectStep(t, triangle+step, want)
	}
}

// P22.2: arguments that are the same point.
func TestStepEqualPoints(t *testing.T) {
	for step, want := range map[string]string{
		"oncircle 0 0":  "v3^2*v4 + v4; v3^2*v5 + v5",
		"oncircle 1 1":  "v3^2*v4 + v4 - v0*v3^2 - v0; v3^2*v5 + v5",
		"foot 2 1 1":    "0; 0",
		"foot 0 0 1":    "v0*v4; v0*v3",
		"mirror 2 0 0":  "0; 0",
		"mirror 0 0 1":  "v0*v3; v0*v4",
		"meet 0 0 1 1":  "0; 0",
		"meet 0 1 0 1":  "v0*v4; v0*v4",
		"other 1 1 2":   "0; 0",
		"other 0 1 0":   "v0^2*v3; v0^2*v4",
		"other 0 1 1":   "v0^2*v3 - 2*v0^3; v0^2*v4",
		"center 0 0 1":  "0; 2*v0*v3 - v0^2",
		"center 2 2 2":  "0; 0",
		"cut 1 1 0 0":   "0; v4^2 + v3^2",
		"cut 0 1 0 1":   "v0*v4; v4^2 + v3^2 - v0^2",
		"cross 0 0 0 0": "v4^2 + v3^2; v4^2 + v3^2",
		"cross 0 1 0 1": "v4^2 + v3^2 - v0^2; v4^2 + v3^2 - v0^2",
		"apex 0 0":      "v4^2 + v3^2; v4^2 + v3^2",
	} {
		expectStep(t, triangle+step, want)
	}
}

// P22.2, P22.3: kinds of steps that have no hypotheses.
func TestStepWithoutHypotheses(t *testing.T) {
	for _, step := range []string{"free", "divide 0 1 =1/2", "divide 1 1 =0", "shift 0 1 2", "turn 2 1 0", "online 1 2", "online 0 0"} {
		expectStep(t, triangle+step, "")
	}
	expectOf(t, figure("free"), "")
	expectOf(t, figure("free, free, divide 0 1 =1/2, free, divide 2 3 =1/2, online 3 4, turn 0 1 5, shift 6 5 4"), "")
	expectOf(t, api.Figure{}, "")
	expectOf(t, api.Figure{Steps: []api.Step{}}, "")
}

// P22.2: the variables of a step on a circle behind and before those of other steps, and coordinates that are no variables.
func TestStepVariables(t *testing.T) {
	f := figure("free, oncircle 0 0, free, oncircle 2 0, online 0 2, oncircle 0 4, apex 0 5")
	x := frameOf(t, f)
	for i, want := range []string{
		"", "v0^2*v1 + v1; v0^2*v2 + v2", "", "v4^2*v5 + v5 - 2*v3; v4^2*v6 + v6 - 2*v3*v4",
		"", "v8^2*v9 + v9 - v3*v7*v8^2 + v3*v7; v8^2*v10 + v10 + 2*v3*v7*v8", "v12^2 + v11^2 - v10^2 - v9^2; v12^2 - 2*v10*v12 + v11^2 - 2*v9*v11",
	} {
		if got := show(stepOf(t, f, x, i)...); got != want {
			t.Errorf("Step of %d is %s, want %s", i, got, want)
		}
	}
	expectStep(t, "free, free, divide 0 1 =1/2, turn 2 0 1, apex 2 3", "v2^2 + v1^2 - v0*v1 - 3/4*v0^2; v2^2 - 2*v0*v2 + v1^2 - v0*v1 + 1/4*v0^2")
}

// P22.2: indices that are not those of steps.
func TestStepRange(t *testing.T) {
	for _, steps := range []string{"free", triangle + "foot 2 0 1", triangle + "shift 0 1 2"} {
		f := figure(steps)
		x, n := frameOf(t, f), len(f.Steps)
		for _, i := range []int{-1, -2, n, n + 1, api.MaxPoints, math.MinInt, math.MaxInt} {
			if l, e := hypotheses.Step(f, x, i); len(l) > 0 || e != api.ErrRange {
				t.Errorf("Step of %s and %d returns %s, %d", steps, i, show(l...), e)
			}
		}
		stepOf(t, f, x, 0)
		stepOf(t, f, x, n-1)
	}
	for _, i := range []int{-1, 0, 1} {
		if l, e := hypotheses.Step(api.Figure{}, api.Frame{}, i); len(l) > 0 || e != api.ErrRange {
			t.Errorf("Step of no steps and %d returns %s, %d", i, show(l...), e)
		}
	}
}

// P22.3: several steps, whose hypotheses come one behind the other.
func TestOfSteps(t *testing.T) {
	expectOf(t, figure("free, free, free, foot 2 0 1, shift 0 1 2, mirror 2 0 1, online 0 2, apex 0 1"), strings.Join([]string{
		"v0*v4; v0*v3 - v0*v1", "v0*v5 - v0*v1; v0*v6 + v0*v2", "v9^2 + v8^2 - v0^2; v9^2 + v8^2 - 2*v0*v8",
	}, "; "))
	expectOf(t, figure("free, free, apex 0 1, foot 0 1 1, apex 1 0, oncircle 0 1"), strings.Join([]string{
		"v2^2 + v1^2 - v0^2; v2^2 + v1^2 - 2*v0*v1", "0; 0", "v6^2 + v5^2 - 2*v0*v5; v6^2 + v5^2 - v0^2", "v7^2*v8 + v8 - v0*v7^2 + v0; v7^2*v9 + v9 + 2*v0*v7",
	}, "; "))
}

// P22.2, P22.3: random figures, by the table of DOC.md.
func TestStepRandom(t *testing.T) {
	r, met := newSource(), map[int]int{}
	for range 2 * rounds {
		f := randomFigure(r, 7)
		x := frameOf(t, f)
		var all []api.Poly
		for i, s := range f.Steps {
			l, want := stepOf(t, f, x, i), model(f, x, i)
			if len(l) != len(want) {
				t.Fatalf("the step %d of %v has %d hypotheses, want %d", i, f, len(l), len(want))
			}
			for k, p := range l {
				if !equals(p, want[k]) {
					t.Fatalf("the hypothesis %d of the step %d of %v is %s", k, i, f, show(p))
				}
			}
			met[s.Kind]++
			all = append(all, l...)
		}
		if got, e := hypotheses.Of(f); e != api.OK || show(got...) != show(all...) {
			t.Fatalf("Of(%v) is %s, %d", f, show(got...), e)
		}
	}
	for kind := api.StepFree; kind <= api.StepApex; kind++ {
		if met[kind] < rounds/5 {
			t.Errorf("only %d steps of the kind %d", met[kind], kind)
		}
	}
}

// P22.3: goals play no part, but those that are not right are an error.
func TestOfGoals(t *testing.T) {
	f := figure(triangle + "foot 2 0 1")
	f.Goals = []api.Fact{{Kind: api.FactSame, Args: []int{3, 3}}}
	expectOf(t, f, "v0*v4; v0*v3 - v0*v1")
	f.Goals = append(f.Goals, api.Fact{Kind: api.FactSame, Args: []int{3, 4}})
	expectError(t, f, api.ErrRange)
}
