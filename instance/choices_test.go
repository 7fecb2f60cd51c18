package instance_test

import (
	"testing"

	"geoprover/api"
	"geoprover/instance"
)

// expectChoices fails unless Choices returns these numbers and this error.
func expectChoices(t *testing.T, f api.Figure, params, branches int, e api.Errno) {
	t.Helper()
	gotParams, gotBranches, got := instance.Choices(f)
	if gotParams != params || gotBranches != branches || got != e {
		t.Errorf("Choices of %v returns %d, %d, %d, want %d, %d, %d", f, gotParams, gotBranches, got, params, branches, e)
	}
}

// P26.1: the examples of the promise, and figures with few points.
func TestChoicesExamples(t *testing.T) {
	expectChoices(t, figure("free, free, free"), 3, 0, api.OK)
	expectChoices(t, figure("free, free, apex 0 1"), 1, 1, api.OK)
	expectChoices(t, api.Figure{}, 0, 0, api.OK)
	expectChoices(t, api.Figure{Steps: []api.Step{}}, 0, 0, api.OK)
	expectChoices(t, figure("free"), 0, 0, api.OK)
	expectChoices(t, figure("free, free"), 1, 0, api.OK)
	expectChoices(t, figure("free, free, free, free"), 5, 0, api.OK)
}

// P26.1: a step of each kind behind three free points.
func TestChoicesKinds(t *testing.T) {
	for step, want := range map[string][2]int{
		"free": {5, 0}, "divide 0 1 =2": {3, 0}, "shift 0 1 2": {3, 0}, "turn 0 1 2": {3, 0}, "online 0 1": {4, 0}, "oncircle 0 1": {4, 0},
		"foot 0 1 2": {3, 0}, "mirror 0 1 2": {3, 0}, "meet 0 1 1 2": {3, 0}, "other 0 1 2": {3, 0}, "center 0 1 2": {3, 0},
		"cut 0 1 2 0": {3, 1}, "cross 0 1 2 0": {3, 1}, "apex 0 1": {3, 1}, "apex 1 1": {3, 1}, "online 1 1": {4, 0},
		"cut 0 1 2 0, cross 0 1 2 0, apex 3 4, cut 0 0 0 0":    {3, 4},
		"online 0 1, oncircle 0 3, free, online 3 4, apex 3 4": {8, 1},
		"oncircle 0 1, oncircle 0 1, oncircle 0 1":             {6, 0},
	} {
		expectChoices(t, figure("free, free, free, "+step), want[0], want[1], api.OK)
	}
	expectChoices(t, figure("free, online 0 0, free, oncircle 0 1, free, cross 0 1 2 3"), 5, 1, api.OK)
	expectChoices(t, figure("free | same 0 0"), 0, 0, api.OK)
}

// P26.1: the largest figures.
func TestChoicesLarge(t *testing.T) {
	expectChoices(t, figure(many("free", 33)+", online 0 1"), 64, 0, api.OK)
	expectChoices(t, figure("free, "+many("apex 0 0", 32)), 0, 32, api.OK)
	expectChoices(t, figure("free, "+many("apex 0 0", 32)+", shift 0 0 0"), 0, 32, api.OK)
	expectChoices(t, figure("free, "+many("online 0 0", 39)), 39, 0, api.OK)
}

// wrong returns figures with an error in coordinates.Of, by this error.
func wrong() map[api.Errno][]string {
	return map[api.Errno][]string{
		api.ErrLarge: {many("free", 41), many("free", 34), "free, " + many("apex 0 0", 33), "free | " + many("same 0 0", 9)},
		api.ErrKind:  {"none", "free, none 0", "free | none"},
		api.ErrArg:   {"free 0", "free, free, divide 0 1", "free, apex 0 0 =1/2", "free | same 0"},
		api.ErrRange: {"apex 0 0", "free, apex 0 1", "free | same 0 1"},
		api.ErrName:  {"free:on", "free, free:1A"},
		api.ErrTwice: {"free:A, free:A"},
	}
}

// P26.1: the errors of coordinates.Of.
func TestChoicesErrors(t *testing.T) {
	for e, l := range wrong() {
		for _, s := range l {
			expectChoices(t, figure(s), 0, 0, e)
		}
	}
}

// P26.1: random figures.
func TestChoicesRandom(t *testing.T) {
	r := newSource()
	for range rounds {
		f := randomFigure(r, 10)
		params, branches, free := 0, 0, 0
		for _, s := range f.Steps {
			switch s.Kind {
			case api.StepFree:
				params += min(free, 2)
				free++
			case api.StepOnLine, api.StepOnCircle:
				params++
			case api.StepCut, api.StepCross, api.StepApex:
				branches++
			}
		}
		expectChoices(t, f, params, branches, api.OK)
	}
}
