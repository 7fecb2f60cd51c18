package coordinates_test

import (
	"strconv"
	"testing"

	"geoprover/api"
	"geoprover/lower"
)

// P21.1: MaxVars variables and one more, of each kind of steps that introduce any.
func TestOfVariables(t *testing.T) {
	free := func(n int) string { return many("free", n) }
	for _, x := range []struct {
		steps string
		vars  int
	}{
		{free(33) + ", online 0 1", 64},
		{free(33) + ", online 0 0, divide 0 1 =1, shift 0 0 0, turn 2 1 0", 64},
		{free(33) + ", online 0 1, online 0 1", 65},
		{free(33) + ", online 0 0, online 0 0", 65},
		{free(33) + ", apex 0 1", 65},
		{free(33) + ", foot 0 1 2, shift 0 0 0", 65},
		{free(33) + ", oncircle 0 1", 66},
		{free(34), 65},
		{free(40), 77},
		{free(32) + ", online 0 1, apex 0 1", 64},
		{free(32) + ", online 0 1, meet 0 1 2 3, online 0 1", 65},
		{free(32) + ", oncircle 0 1", 64},
		{free(32) + ", online 1 2, oncircle 0 1", 65},
		{free(32) + ", online 1 2, free, shift 0 0 0", 64},
		{"free, oncircle 0 0, " + many("center 0 0 0", 30), 63},
		{"free, oncircle 0 0, " + many("cross 0 0 0 0", 30) + ", free", 64},
		{"free, oncircle 0 0, " + many("cross 0 0 0 0", 30) + ", free, free", 66},
		{"free, " + many("oncircle 0 0", 21) + ", online 0 1", 64},
		{"free, " + many("oncircle 0 0", 21) + ", cut 0 1 2 3", 65},
		{"free, " + many("oncircle 0 0", 22), 66},
		{"free, " + many("other 0 0 0", 32), 64},
		{"free, " + many("mirror 0 0 0", 33), 66},
		{"free, " + many("online 0 0", 39), 39},
	} {
		f := figure(x.steps)
		if x.vars > api.MaxVars {
			expectError(t, f, api.ErrLarge)
			continue
		}
		if got := len(frameOf(t, f).Vars); got != x.vars {
			t.Errorf("%s has %d variables, want %d", x.steps, got, x.vars)
		}
	}
	last := frameOf(t, figure(free(33)+", online 1 2")).Coords[33]
	if got, want := polyText(last.X), "v1*v63 - v0*v63 + v0"; got != want {
		t.Errorf("with the last variable: %s, want %s", got, want)
	}
}

// long returns steps that append a point whose coordinates have n terms for each term of those of the point start, which is the last one so far. The point 0 is the first free one.
func long(start, n int) string {
	var steps string
	next := start + 1
	add := func(step string) int {
		steps += ", " + step
		next++
		return next - 1
	}
	bits := strconv.FormatInt(int64(n), 2)
	point := start
	for _, bit := range bits[1:] {
		point = add("online " + strconv.Itoa(point) + " 0") // A - t A
		if bit == '1' {
			other := add("online 0 " + strconv.Itoa(start))
			point = add("shift " + strconv.Itoa(point) + " 0 " + strconv.Itoa(other)) // the sum of both
		}
	}
	return steps
}

// P21.1: coordinates with MaxTerms terms and with one more: both of them, the first one, or the second one.
func TestOfTerms(t *testing.T) {
	for _, begin := range []string{"free, free, free", "free, free, shift 0 0 1", "free, free, turn 0 0 1"} {
		for _, n := range []int{1, 2, 3, 5, 100, api.MaxTerms - 1, api.MaxTerms} {
			x := frameOf(t, figure(begin+long(2, n)))
			first, last := x.Coords[2], x.Coords[len(x.Coords)-1]
			if len(last.X) != n*len(first.X) || len(last.Y) != n*len(first.Y) {
				t.Errorf("%s: %d and %d terms in the place of %d", begin, len(last.X), len(last.Y), n)
			}
		}
		for _, n := range []int{api.MaxTerms + 1, api.MaxTerms + 2, 2*api.MaxTerms + 1} {
			f := figure(begin + long(2, n))
			expectError(t, f, api.ErrLarge)
			f.Steps = append(f.Steps, figure("free, shift 0 0 0").Steps...)
			expectError(t, f, api.ErrLarge)
		}
	}
}

// P21.1: a coordinate that is not too large is computed, whatever the sums on the way are.
func TestOfShorter(t *testing.T) {
	begin := "free, free, free" + long(2, api.MaxTerms)
	last := len(figure(begin).Steps) - 1
	a, b, c := strconv.Itoa(last), strconv.Itoa(last+1), strconv.Itoa(last+2)
	begin += ", online 0 " + a // another point with as many terms
	for step, terms := range map[string]int{
		"divide " + a + " " + b + " =1":           api.MaxTerms,
		"divide " + b + " " + a + " =1":           api.MaxTerms,
		"divide " + b + " " + a + " =0":           api.MaxTerms,
		"shift " + a + " " + a + " " + b:          api.MaxTerms,
		"shift " + a + " " + a + " 0":             0,
		"turn 0 " + a + " 0":                      api.MaxTerms,
		"turn " + b + " 0 0":                      api.MaxTerms,
		"online " + b + " " + b:                   api.MaxTerms,
		"foot " + a + " " + b + " 0":              1,
		"apex " + a + " " + b + ", online 0 " + c: 1,
	} {
		x := frameOf(t, figure(begin+", "+step))
		if p := x.Coords[len(x.Coords)-1]; len(p.X) != terms || len(p.Y) != terms {
			t.Errorf("%s: %d and %d terms, want %d", step, len(p.X), len(p.Y), terms)
		}
	}
	for _, step := range []string{"divide " + a + " " + b + " =1/2", "shift " + a + " 0 " + b, "turn " + a + " 0 " + b, "online " + a + " " + b, "online " + a + " 0"} {
		expectError(t, figure(begin+", "+step), api.ErrLarge)
	}
}

// lastSteps returns steps for the end of a figure, with the errors that lower.Right has for them.
func lastSteps() map[string]api.Errno {
	return map[string]api.Errno{
		"none":                  api.ErrKind,
		"apex 0":                api.ErrArg,
		"free 0":                api.ErrArg,
		"apex 0 99":             api.ErrRange,
		"divide 0 0":            api.ErrArg,
		"apex 0 0 =1":           api.ErrArg,
		"foot 0 -1 0":           api.ErrRange,
		"divide 0 0 =1, cut":    api.ErrArg,
		"shift 0 0 0, apex 0 0": api.OK,
	}
}

// P21.1: the errors of lower.Right come before ErrLarge, whatever step has them.
func TestOfErrorOrder(t *testing.T) {
	for _, begin := range []string{"free", many("free", 34), "free, free, free" + long(2, api.MaxTerms+1)} {
		for step, want := range lastSteps() {
			f := figure(begin + ", " + step)
			if want == api.OK && len(begin) > len("free") {
				want = api.ErrLarge
			}
			if want == api.OK {
				frameOf(t, f)
				continue
			}
			expectError(t, f, want)
		}
		last := len(figure(begin).Steps)
		for point, want := range map[string]api.Errno{"1": api.ErrName, "on": api.ErrName, "A": api.ErrTwice} {
			f := figure(begin + ", online 0 0")
			f.Steps[0].Point, f.Steps[last].Point = "A", point
			expectError(t, f, want)
		}
		for _, g := range []api.Fact{{}, {Kind: api.FactSame}, {Kind: api.FactSame, Args: []int{0, last}}, {Kind: api.FactRatio, Args: []int{0, 0, 0, 0}}} {
			f := figure(begin)
			f.Goals = []api.Fact{g}
			expectError(t, f, lower.Right(f))
			if lower.Right(f) == api.OK {
				t.Errorf("the goal %v is right", g)
			}
		}
		f := figure(begin)
		f.Goals = make([]api.Fact, api.MaxGoals+1)
		expectError(t, f, api.ErrLarge)
	}
	f := figure(many("free", api.MaxPoints+1))
	f.Steps[0].Kind = 0
	expectError(t, f, api.ErrLarge)
	expectError(t, figure("apex 0 0"), api.ErrRange)
}
