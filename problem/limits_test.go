package problem_test

import (
	"strconv"
	"strings"
	"testing"

	"geoprover/api"
	"geoprover/conditions"
	"geoprover/coordinates"
	"geoprover/hypotheses"
	"geoprover/problem"
)

// builder collects the steps of a figure with long points.
type builder struct{ steps []string }

// add appends a step with these arguments, and returns its point.
func (b *builder) add(word string, args ...int) int {
	for _, a := range args {
		word += " " + strconv.Itoa(a)
	}
	b.steps = append(b.steps, word)
	return len(b.steps) - 1
}

// long appends a point whose coordinates have n terms for each term of those of the point start, and returns it. The point 0 is the first free one.
func (b *builder) long(start, n int) int {
	point := start
	for _, bit := range strconv.FormatInt(int64(n), 2)[1:] {
		point = b.add("online", point, 0) // A - t A
		if bit == '1' {
			point = b.add("shift", point, 0, b.add("online", 0, start)) // the sum of both
		}
	}
	return point
}

// sum appends the point P + Q, and returns it.
func (b *builder) sum(p, q int) int { return b.add("shift", p, 0, q) }

// figure returns the figure of the steps, and of further steps and goals as in texts of figures.
func (b *builder) figure(rest string) api.Figure { return figure(strings.Join(b.steps, ", ") + rest) }

// begin returns a builder with the points 0 = (0, 0), 1 = (v0, 0), 2 = (v0 v1, 0), 3 = (v0 v2, 0), 4 = (0, v0 v2) and 5 = (0, v0).
func begin() *builder {
	return &builder{strings.Split("free, free, online 0 1, online 0 1, turn 0 0 3, turn 0 0 1", ", ")}
}

// longPoint returns a builder with a last point whose coordinates have m and n terms, if they are greater than 0, and this point.
func longPoint(m, n int) (*builder, int) {
	b := begin()
	switch {
	case n == 0:
		return b, b.long(2, m)
	case m == 0:
		return b, b.long(4, n)
	}
	x := b.long(2, m)
	return b, b.sum(x, b.long(4, n))
}

// expectCondition fails unless the hypotheses of f are short, its last condition has so many terms, and Make returns ErrLarge exactly if there are too many.
func expectCondition(t *testing.T, f api.Figure, terms int) {
	t.Helper()
	if _, e := hypotheses.Of(f); e != api.OK {
		t.Fatalf("the hypotheses have the error %d", e)
	}
	x, _ := coordinates.Of(f)
	l, _ := conditions.Of(f)
	last, e := conditions.Poly(l[len(l)-1], f, x)
	if len(last) != terms || e != api.OK {
		t.Fatalf("the last condition has %d terms, want %d", len(last), terms)
	}
	if terms > api.MaxTerms {
		expectError(t, f, api.ErrLarge)
		f.Goals = figure("free | same 0 1").Goals
		expectError(t, f, api.ErrLarge)
		return
	}
	p := makeOf(t, f)
	if len(p.Conds) != len(l) || show(p.Conds[len(l)-1]) != show(last) || !problem.Right(p) {
		t.Errorf("the last condition of the problem has %d terms", len(p.Conds[len(l)-1]))
	}
}

// P25.1: a CondCrossing with MaxTerms terms, and with more.
func TestConditionCrossing(t *testing.T) {
	for _, c := range []struct{ n, terms int }{{api.MaxTerms/2 - 1, api.MaxTerms - 1}, {api.MaxTerms / 2, api.MaxTerms + 1}} {
		b, p := longPoint(0, c.n)
		p = b.sum(p, 1)              // (v0, P)
		q := b.sum(b.add("free"), 1) // two terms and one
		b.add("meet", 0, q, 0, p)
		expectCondition(t, b.figure(""), c.terms)
	}
	b, p := longPoint(0, api.MaxTerms/2)
	q := b.sum(b.add("free"), 1)
	b.add("meet", 0, q, 0, p)
	expectCondition(t, b.figure(""), api.MaxTerms)
	expectCondition(t, b.figure(", foot 1 0 2"), 1)
}

// P25.1: a CondTriangle with MaxTerms terms, and with one more.
func TestConditionTriangle(t *testing.T) {
	b := begin()
	p, q := b.long(2, 40), b.long(4, api.MaxTerms/40)
	expectCondition(t, b.figure(", center 0 "+strconv.Itoa(p)+" "+strconv.Itoa(q)), api.MaxTerms)
	b.add("center", 0, b.sum(p, 5), b.sum(q, 1))
	expectCondition(t, b.figure(""), api.MaxTerms+1)
}

// P25.1: a CondDistinct with MaxTerms terms, and with one more, of each kind of steps that has such a condition and short hypotheses.
func TestConditionDistinct(t *testing.T) {
	for _, step := range []string{"foot 1 0 ", "foot 2 0 ", "mirror 1 0 "} {
		b, p := longPoint(114, 99)
		p = b.sum(p, 5)
		expectCondition(t, b.figure(", "+step+strconv.Itoa(p)), api.MaxTerms)
		b, p = longPoint(153, 41)
		expectCondition(t, b.figure(", "+step+strconv.Itoa(p)), api.MaxTerms+1)
	}
	b, p := longPoint(153, 41)
	expectCondition(t, b.figure(", cut 0 "+strconv.Itoa(p)+" 0 1"), api.MaxTerms+1)
	expectCondition(t, b.figure(", cut "+strconv.Itoa(p)+" 0 0 1"), api.MaxTerms+1)
	expectCondition(t, b.figure(", cross 0 1 "+strconv.Itoa(p)+" 0"), api.MaxTerms+1)
}

// P25.1: conditions that would take long to be computed are ErrLarge at once.
func TestConditionsVeryLong(t *testing.T) {
	b, p := longPoint(1792, 1792) // 14 steps for each coordinate
	last := strconv.Itoa(p)
	turned := b.add("turn", 0, 0, p)
	expectError(t, b.figure(", foot 1 0 "+last), api.ErrLarge)
	expectError(t, b.figure(", cross 0 1 "+last+" 0"), api.ErrLarge)
	expectError(t, b.figure(", meet 0 "+last+" 0 "+strconv.Itoa(turned)), api.ErrLarge)
	if p := makeOf(t, b.figure("")); len(p.Conds) > 0 {
		t.Error("the points alone have conditions")
	}
}

// P25.1: frames and hypotheses at their limits, and beyond them.
func TestMakeLarge(t *testing.T) {
	makeOf(t, figure("free, free, "+many("free", 31)+", online 0 1")) // MaxVars variables
	expectError(t, figure("free, free, "+many("free", 31)+", online 0 1, online 0 1"), api.ErrLarge)
	expectError(t, figure(many("free", 34)), api.ErrLarge)
	b, p := longPoint(api.MaxTerms, 0)
	if got := makeOf(t, b.figure("")).Frame.Coords[p].X; len(got) != api.MaxTerms {
		t.Errorf("the longest coordinate has %d terms", len(got))
	}
	expectError(t, b.figure(", shift "+strconv.Itoa(p)+" 0 1"), api.ErrLarge)
	b, p = longPoint(api.MaxTerms/2-1, 0)
	if got := makeOf(t, b.figure(", oncircle 0 "+strconv.Itoa(p))).Hyps; len(got) != 2 || len(got[0]) != api.MaxTerms {
		t.Errorf("there are %d hypotheses", len(got))
	}
	expectError(t, b.figure(", oncircle 1 "+strconv.Itoa(p)), api.ErrLarge)
}

// P25.1: goals with MaxTerms terms, and with one more, as the first one and as a later one.
func TestMakeLargeGoals(t *testing.T) {
	b, p := longPoint(api.MaxTerms, 0)
	last := strconv.Itoa(p)
	for _, before := range []string{"", "same 0 1, ", "same 0 " + last + ", collinear 0 1 2, "} {
		for _, behind := range []string{"", ", same 0 1", ", ratio 0 " + last + " 1 " + last + " =2"} {
			good := "same 0 " + last + ", collinear 0 5 " + last + ", midpoint 0 1 1"
			if !strings.Contains(behind, "ratio") {
				p := makeOf(t, b.figure(" | "+before+good+behind))
				if n := strings.Count(before, ","); len(p.Goals[n][0]) != api.MaxTerms || len(p.Goals[n+1][0]) != api.MaxTerms || !problem.Right(p) {
					t.Errorf("the goals %s%s are short", before, good)
				}
			}
			expectError(t, b.figure(" | "+before+"same 1 "+last+behind), api.ErrLarge)
			expectError(t, b.figure(" | "+before+"midpoint 0 1 "+last+behind), api.ErrLarge)
			expectError(t, b.figure(" | "+before+good+", same "+last+" 1"+behind), api.ErrLarge)
		}
	}
	expectError(t, b.figure(" | same 1 "+last+", same 1"), api.ErrArg) // the error of lower.Right for a later goal
	expectError(t, b.figure(" | same 1 "+last+", same 1 77"), api.ErrRange)
}
