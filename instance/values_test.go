package instance_test

import (
	"slices"
	"testing"

	"geoprover/api"
	"geoprover/instance"
)

// expectValues fails unless Values returns the numbers with the texts want.
func expectValues(t *testing.T, p api.Problem, x api.Instance, want string) {
	t.Helper()
	l, e := instance.Values(p, x)
	if got := showNumbers(l); got != want || e != api.OK {
		t.Errorf("Values of %v is %s, %d, want %s", x, got, e, want)
	}
}

// P26.3: figures with steps of all kinds of variables.
func TestValues(t *testing.T) {
	for _, c := range []struct{ steps, values, branches, want string }{
		{"free", "", "", ""},
		{"free, free", "-3", "", "-3"},
		{"free, free, free", "4 1 3", "", "4 1 3"},
		{"free, free, free, foot 2 0 1", "4 1 3", "", "4 1 3 1 0"},
		{"free, free, oncircle 0 1", "4 1", "", "4 1 0 -4"},
		{"free, free, oncircle 1 0, oncircle 0 1", "4 -1/2 1", "", "4 -1/2 32/5 -16/5 1 0 -4"},
		{"free, free, divide 0 1 =1/2, shift 2 0 1, turn 0 0 1", "4", "", "4"},
		{"free, free, online 0 1, mirror 2 0 1, free", "4 1/3 -1 2", "", "4 1/3 4/3 0 -1 2"},
		{"free, free, cut 0 1 0 1, free, center 0 1 3, meet 0 1 1 3", "4 0 2", "-", "4 -4 0 0 2 2 1 4 0"},
		{"free, free, free, cross 0 2 1 2, other 0 2 1", "4 1 3", "+", "4 1 3 1 3 4/5 12/5"},
	} {
		f := figure(c.steps)
		expectValues(t, makeOf(t, f), atOf(t, f, numbers(c.values), signs(c.branches)), c.want)
	}
	expectValues(t, api.Problem{}, api.Instance{}, "")
}

// P26.3: points that are not those of the values are taken as they are, and so are values that are not those of the points.
func TestValuesOfOtherPoints(t *testing.T) {
	f := figure("free, free, oncircle 0 1, free, foot 3 0 2, online 4 0")
	p := makeOf(t, f)
	x := api.Instance{Values: numbers("4 1 5 6 -2"), Points: points("7 8 9 10 -11 12 13 14 -1/2 1/3 17 18")}
	expectValues(t, p, x, "4 1 -11 12 5 6 -1/2 1/3 -2")
	x.Values = numbers("0 0 0 0 1/7")
	expectValues(t, p, x, "0 0 -11 12 0 0 -1/2 1/3 1/7")
	x.Points[2], x.Points[4] = x.Points[4], x.Points[2]
	expectValues(t, p, x, "0 0 -1/2 1/3 0 0 -11 12 1/7")
	expectValues(t, makeOf(t, figure("free, apex 0 0, foot 1 0 0")), api.Instance{Points: points("1 2 5 6 -7 8")}, "5 6 -7 8")
}

// P26.3: too many and too few values and points. Branches play no part.
func TestValuesMismatch(t *testing.T) {
	for _, s := range []string{"free", "free, free, free", "free, free, oncircle 0 1, apex 2 1", "free, free, cut 0 1 0 1, turn 0 0 1"} {
		f := figure(s)
		p := makeOf(t, f)
		params, _, _ := instance.Choices(f)
		for n := range params + 3 {
			for m := range len(f.Steps) + 3 {
				for branches := range 4 {
					x := api.Instance{Values: slices.Repeat(numbers("1"), n), Branches: make([]bool, branches), Points: slices.Repeat(points("2 3"), m)}
					want := api.ErrMismatch
					if n == params && m == len(f.Steps) {
						want = api.OK
					}
					l, e := instance.Values(p, x)
					if e != want || e == api.OK && len(l) != len(p.Frame.Vars) || e != api.OK && len(l) > 0 {
						t.Errorf("Values of %s for %d values and %d points returns %d numbers, %d", s, n, m, len(l), e)
					}
					if ok, e := instance.Satisfies(p, x); e != want || e != api.OK && ok {
						t.Errorf("Satisfies of %s for %d values and %d points returns %v, %d", s, n, m, ok, e)
					}
				}
			}
		}
	}
}

// P26.3: random figures: the values are those of which the coordinates of the points are computed.
func TestValuesRandom(t *testing.T) {
	r := newSource()
	done := 0
	for range 10 * rounds {
		f := randomFigure(r, 6)
		values, branches := randomChoices(t, r, f)
		want := solve(t, f, values, branches)
		if want.e != api.OK {
			continue
		}
		done++
		expectValues(t, makeOf(t, f), atOf(t, f, values, branches), showNumbers(want.variables))
	}
	if done < rounds {
		t.Errorf("only %d instances", done)
	}
}
