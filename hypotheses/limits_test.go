package hypotheses_test

import (
	"slices"
	"strconv"
	"strings"
	"testing"

	"geoprover/api"
	"geoprover/hypotheses"
	"geoprover/lower"
)

// long returns steps that append a point whose coordinates have n terms for each term of those of the point start, which is the last one so far. The point 0 is the first free one.
func long(start, n int) string {
	var steps string
	next := start + 1
	add := func(step string) int {
		steps += ", " + step
		next++
		return next - 1
	}
	bits := strconv.FormatInt(int64(n), 2)
	point := start
	for _, bit := range bits[1:] {
		point = add("online " + strconv.Itoa(point) + " 0") // A - t A
		if bit == '1' {
			other := add("online 0 " + strconv.Itoa(start))
			point = add("shift " + strconv.Itoa(point) + " 0 " + strconv.Itoa(other)) // the sum of both
		}
	}
	return steps
}

// horizontal returns the steps of a figure whose point 2 is (v0 v1, 0), and whose last one is (p, 0) for a p with n terms.
func horizontal(n int) api.Figure { return figure("free, free, online 0 1" + long(2, n)) }

// upright returns the steps of a figure whose point 2 is (v0 v1, 0), and whose last one is (0, p) for a p with n terms.
func upright(n int) api.Figure { return figure("free, free, online 0 1, turn 0 0 1" + long(3, n)) }

// then returns a figure with a further step of this kind, where an argument -1 stands for the point that was the last one.
func then(f api.Figure, kind int, args ...int) api.Figure {
	for i, a := range args {
		if a < 0 {
			args[i] = len(f.Steps) - 1
		}
	}
	return api.Figure{Steps: append(slices.Clip(f.Steps), api.Step{Kind: kind, Args: args})}
}

// expectLengths fails unless the hypotheses of the last step of f have these numbers of terms, and Of returns them, or ErrLarge if one of the numbers is too great.
func expectLengths(t *testing.T, f api.Figure, lengths ...int) {
	t.Helper()
	x := frameOf(t, f)
	l := stepOf(t, f, x, len(f.Steps)-1)
	var got []int
	for k, p := range l {
		got = append(got, len(p))
		if !equals(p, model(f, x, len(f.Steps)-1)[k]) {
			t.Errorf("the hypothesis %d of %v is not that of the table", k, f.Steps[len(f.Steps)-1])
		}
	}
	if !slices.Equal(got, lengths) {
		t.Errorf("the hypotheses of %v have %v terms, want %v", f.Steps[len(f.Steps)-1], got, lengths)
	}
	if slices.Max(lengths) > api.MaxTerms {
		expectError(t, f, api.ErrLarge)
		expectError(t, then(then(f, api.StepFree), api.StepApex, 0, 1), api.ErrLarge)
		return
	}
	all, e := hypotheses.Of(f)
	if e != api.OK || show(all...) != show(l...) {
		t.Errorf("Of returns %d hypotheses and %d, want those of the last step", len(all), e)
	}
}

// P22.3: a hypothesis with MaxTerms terms and one with one more, the first and the second one of a step.
func TestOfTerms(t *testing.T) {
	const n = api.MaxTerms/2 - 1
	expectLengths(t, then(horizontal(n), api.StepOnCircle, 0, -1), api.MaxTerms, n+2)
	expectLengths(t, then(horizontal(n), api.StepOnCircle, 1, -1), api.MaxTerms+1, n+3)
	expectLengths(t, then(horizontal(n+1), api.StepOnCircle, 0, -1), api.MaxTerms+2, n+3)
	expectLengths(t, then(upright(n), api.StepOnCircle, 0, -1), n+2, api.MaxTerms)
	expectLengths(t, then(upright(n-1), api.StepOnCircle, 1, -1), n+2, api.MaxTerms-1)
	expectLengths(t, then(upright(n), api.StepOnCircle, 1, -1), n+3, api.MaxTerms+1)
	expectLengths(t, then(upright(n+1), api.StepOnCircle, 0, -1), n+3, api.MaxTerms+2)
}

// P22.3: the same limit for other kinds of steps.
func TestOfTermsOfKinds(t *testing.T) {
	const n = api.MaxTerms
	for _, c := range []struct {
		f       api.Figure
		lengths []int
	}{
		{then(horizontal(n), api.StepFoot, 0, 0, -1), []int{n, n}},
		{then(horizontal(n/2), api.StepFoot, 2, 0, -1), []int{n / 2, n}},
		{then(horizontal(n/2+1), api.StepFoot, 2, 0, -1), []int{n/2 + 1, n + 2}},
		{then(upright(n/2), api.StepFoot, 2, 0, -1), []int{n / 2, n / 2}},
		{then(upright(n-1), api.StepFoot, 1, 1, -1), []int{2*n - 1, n + 1}},
		{then(horizontal(n/2), api.StepMirror, 2, 0, -1), []int{n, n / 2}},
		{then(horizontal(n/2+1), api.StepMirror, 2, 0, -1), []int{n + 2, n/2 + 1}},
		{then(upright(n/2), api.StepMirror, 2, 0, -1), []int{n / 2, n}},
		{then(upright(n/2+1), api.StepMirror, 2, 0, -1), []int{n/2 + 1, n + 2}},
		{then(horizontal(n), api.StepMeet, 0, -1, 0, 1), []int{n, 1}},
		{then(horizontal(n), api.StepMeet, 0, 1, -1, 0), []int{1, n}},
		{then(horizontal(n-1), api.StepMeet, 0, 1, -1, 1), []int{1, n}},
		{then(upright(n/2), api.StepMeet, 0, -1, 1, 2), []int{n / 2, 2}},
		{then(horizontal(n), api.StepOther, 0, 1, -1), []int{n + 1, 1}},
		{then(horizontal(n-1), api.StepOther, 0, 1, -1), []int{n, 1}},
		{then(upright(n), api.StepOther, 0, 1, -1), []int{1, 1}},
	} {
		expectLengths(t, c.f, c.lengths...)
	}
}

// P22.3: each kind of step with points whose coordinates become longer: Of returns ErrLarge exactly if a hypothesis of Step is too long.
func TestOfLonger(t *testing.T) {
	for kind := api.StepOnCircle; kind <= api.StepApex; kind++ {
		met := map[api.Errno]int{}
		for n := 1; n < 200 && met[api.ErrLarge] == 0; n = 3*n/2 + 1 {
			f := figure("free, free, free" + long(2, n))
			args := []int{len(f.Steps) - 1, 1, 2, 0}
			if n%2 == 0 {
				slices.Reverse(args)
			}
			if arity := lower.Arity(kind); n%2 == 0 {
				args = args[4-arity:]
			} else {
				args = args[:arity]
			}
			f = then(f, kind, args...)
			want := api.OK
			for _, p := range stepOf(t, f, frameOf(t, f), len(f.Steps)-1) {
				if len(p) > api.MaxTerms {
					want = api.ErrLarge
				}
			}
			met[want]++
			if l, e := hypotheses.Of(f); e != want || (e == api.OK) != (len(l) == 2) {
				t.Errorf("Of returns %d hypotheses and %d for the kind %d with %d terms, want %d", len(l), e, kind, n, want)
			}
		}
		if met[api.OK] < 5 {
			t.Errorf("only %d figures with the kind %d", met[api.OK], kind)
		}
	}
}

// P22.3: hypotheses that would be too long to be computed are ErrLarge at once.
func TestOfVeryLong(t *testing.T) {
	steps := "free, free, free"
	for i := range 11 {
		steps += ", online " + strconv.Itoa(i+1) + " " + strconv.Itoa(i+2)
	}
	f := figure(steps)
	last := len(f.Steps) - 1
	if x := frameOf(t, f); len(x.Coords[last].X) < api.MaxTerms/2 {
		t.Fatal("the coordinates are short")
	}
	for kind := api.StepOnCircle; kind <= api.StepApex; kind++ {
		expectError(t, then(f, kind, []int{last, last - 1, last - 2, last - 3}[:lower.Arity(kind)]...), api.ErrLarge)
	}
}

// P22.3: the errors of coordinates.Of come first.
func TestOfErrors(t *testing.T) {
	large := then(horizontal(api.MaxTerms/2), api.StepOnCircle, 0, -1)
	expectError(t, large, api.ErrLarge)
	for _, begin := range []api.Figure{figure("free"), figure("free, free, apex 0 1"), large} {
		for steps, want := range map[string]api.Errno{"none": api.ErrKind, "apex 0": api.ErrArg, "apex 0 99": api.ErrRange, "divide 0 0": api.ErrArg, "free =1": api.ErrArg} {
			f := api.Figure{Steps: append(slices.Clip(begin.Steps), figure(steps).Steps...)}
			expectError(t, f, want)
		}
		f := api.Figure{Steps: append(slices.Clip(begin.Steps), figure("free, free").Steps...)}
		last := len(f.Steps) - 1
		f.Steps[last].Point = "on"
		expectError(t, f, api.ErrName)
		f.Steps[last].Point, f.Steps[last-1].Point = "A", "A"
		expectError(t, f, api.ErrTwice)
		f.Steps[last].Point = ""
		f.Goals = []api.Fact{{}}
		expectError(t, f, api.ErrKind)
	}
	expectError(t, figure("apex 0 0"), api.ErrRange)
	expectError(t, figure(strings.TrimSuffix(strings.Repeat("free, ", 34), ", ")), api.ErrLarge)
	expectError(t, figure(strings.TrimSuffix(strings.Repeat("free, ", 41), ", ")), api.ErrLarge)
	expectError(t, figure("free, free, free"+long(2, api.MaxTerms+1)), api.ErrLarge)
	if l, e := hypotheses.Of(figure("free" + strings.Repeat(", apex 0 0", 32))); e != api.OK || len(l) != 64 {
		t.Errorf("the largest number of variables: %d, %d", len(l), e)
	}
}
