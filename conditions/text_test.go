package conditions_test

import (
	"math"
	"strings"
	"testing"

	"geoprover/api"
	"geoprover/conditions"
	"geoprover/lower"
)

// expectText fails unless Text returns want for the names, between which stand commas.
func expectText(t *testing.T, c api.Condition, names, want string) {
	t.Helper()
	if got, e := conditions.Text(c, strings.Split(names, ",")); got != want || e != api.OK {
		t.Errorf("Text of %s for %q is %q, %d, want %q", write(c), names, got, e, want)
	}
}

// P23.4: each kind of conditions, and the example of the chapter.
func TestText(t *testing.T) {
	const names = "A,B,C,D,E"
	expectText(t, condition(api.CondDistinct, 3, 0, 1), names, "A != B")
	expectText(t, condition(api.CondDistinct, 3, 4, 1), names, "E != B")
	expectText(t, condition(api.CondDistinct, 3, 2, 2), names, "C != C")
	expectText(t, condition(api.CondTriangle, 3, 0, 1, 2), names, "A, B, C are not collinear")
	expectText(t, condition(api.CondTriangle, 3, 4, 0, 3), names, "E, A, D are not collinear")
	expectText(t, condition(api.CondCrossing, 3, 0, 1, 2, 3), names, "AB and CD are not parallel")
	expectText(t, condition(api.CondCrossing, 3, 4, 1, 4, 2), names, "EB and EC are not parallel")
	expectText(t, condition(api.CondSlope, 3), names, "slope of D")
	expectText(t, condition(api.CondSlope, 0), names, "slope of A")
	expectText(t, condition(api.CondSlope, 4), names, "slope of E")
	expectText(t, api.Condition{Kind: api.CondSlope, Args: []int{}, Step: 1}, names, "slope of B")
	expectText(t, condition(api.CondCrossing, 3, 0, 1, 2, 3), "A,B1,C,D", "(A B1) and CD are not parallel")
}

// P23.4: names of more than one byte.
func TestTextLongNames(t *testing.T) {
	for names, want := range map[string]string{
		"A,B,C,D":        "AB and CD are not parallel",
		"A1,B,C,D":       "(A1 B) and CD are not parallel",
		"A,B1,C,D":       "(A B1) and CD are not parallel",
		"A1,B1,C,D":      "(A1 B1) and CD are not parallel",
		"A,B,C1,D":       "AB and (C1 D) are not parallel",
		"A,B,C,D1":       "AB and (C D1) are not parallel",
		"A,B,Cc,DDD":     "AB and (Cc DDD) are not parallel",
		"A,B1,C,D1":      "(A B1) and (C D1) are not parallel",
		"A,\u00e9,C,D":   "(A \u00e9) and CD are not parallel", // one character, but two bytes
		"A,\xff,C,D":     "A\xff and CD are not parallel",
		"A,,C,D":         "A and CD are not parallel",
		",,,":            " and  are not parallel",
		",B1,C,":         "( B1) and C are not parallel",
		"A1,,,D1":        "(A1 ) and ( D1) are not parallel",
		"A, ,(C,\n":      "A  and ((C \n) are not parallel",
		"point,line,A,B": "(point line) and AB are not parallel",
	} {
		expectText(t, condition(api.CondCrossing, 9, 0, 1, 2, 3), names, want)
	}
	const names = "A1,,C,\u00e9 \n,_12345678901234567890"
	expectText(t, condition(api.CondDistinct, 9, 0, 3), names, "A1 != \u00e9 \n")
	expectText(t, condition(api.CondDistinct, 9, 1, 2), names, " != C")
	expectText(t, condition(api.CondTriangle, 9, 0, 1, 4), names, "A1, , _12345678901234567890 are not collinear")
	expectText(t, condition(api.CondSlope, 0), names, "slope of A1")
	expectText(t, condition(api.CondSlope, 1), names, "slope of ")
	expectText(t, condition(api.CondSlope, 4), names, "slope of _12345678901234567890")
}

// P23.4: for CondSlope the Step is the index of a name, for other kinds it plays no part.
func TestTextSteps(t *testing.T) {
	for _, step := range []int{-1, 2, 3, math.MinInt, math.MaxInt} {
		if got, e := conditions.Text(condition(api.CondSlope, step), []string{"A", "B"}); got != "" || e != api.ErrRange {
			t.Errorf("Text of the slope of %d is %q, %d", step, got, e)
		}
		expectText(t, condition(api.CondDistinct, step, 1, 0), "A,B", "B != A")
		expectText(t, condition(api.CondTriangle, step, 1, 0, 1), "A,B", "B, A, B are not collinear")
		expectText(t, condition(api.CondCrossing, step, 1, 0, 1, 1), "A,B", "BA and BB are not parallel")
	}
	for _, names := range [][]string{nil, {}} {
		if got, e := conditions.Text(condition(api.CondSlope, 0), names); got != "" || e != api.ErrRange {
			t.Errorf("Text without names is %q, %d", got, e)
		}
	}
	if got, e := conditions.Text(condition(api.CondSlope, -1, 0), nil); got != "" || e != api.ErrArg {
		t.Errorf("Text of a slope with an argument is %q, %d", got, e)
	}
}

// P23.4: the conditions of a figure with its names, in which helpers are numbered.
func TestTextOfFigure(t *testing.T) {
	f := figure("free, free, free, turn 2 0 1, meet 0 1 2 3, oncircle 0 1, center 0 1 4")
	for i, name := range []string{"A", "B", "C", "", "X", "P1", "O"} {
		f.Steps[i].Point = name
	}
	names := strings.Join(lower.Names(f), ",")
	l := ofFigure(t, f)
	expectText(t, l[0], names, "AB and (C "+lower.Names(f)[3]+") are not parallel")
	expectText(t, l[1], names, "slope of P1")
	expectText(t, l[2], names, "A, B, X are not collinear")
}
