package instance_test

import (
	"strings"
	"testing"

	"geoprover/api"
	"geoprover/instance"
	"geoprover/rational"
)

// P26.2: the examples of the promise and of the chapter.
func TestAtExamples(t *testing.T) {
	expectAtError(t, figure("free, free, apex 0 1"), numbers("2"), signs("+"), 2, api.ErrIrrational)
	const foot = "free, free, free, foot 2 0 1"
	expectAt(t, foot, "4 1 3", "", "0 0 4 0 1 3 1 0")
	expectAtError(t, figure(foot), numbers("0 1 3"), nil, 3, api.ErrDegenerate)
}

// P26.2: figures with few points, and free points between other steps.
func TestAtFreePoints(t *testing.T) {
	expectAt(t, "free", "", "", "0 0")
	expectAt(t, "free, free", "-3/2", "", "0 0 -3/2 0")
	expectAt(t, "free, free", "0", "", "0 0 0 0")
	expectAt(t, "free, free, free, free", "1 2 3 4 5", "", "0 0 1 0 2 3 4 5")
	expectAt(t, "free, shift 0 0 0, free, turn 0 0 2, free, free", "7 1/2 -1/3 0 -5", "", "0 0 0 0 7 0 0 7 1/2 -1/3 0 -5")
	if x := atOf(t, api.Figure{}, nil, nil); len(x.Values)+len(x.Branches)+len(x.Points) > 0 {
		t.Errorf("the instance of nothing is %v", x)
	}
	atOf(t, api.Figure{Steps: []api.Step{}}, []api.Rat{}, []bool{})
}

// P26.2: a step of each kind behind the triangle (0, 0), (4, 0), (1, 3).
func TestAtKinds(t *testing.T) {
	for _, c := range []struct{ step, values, branches, point string }{
		{"free", " -2 1/2", "", "-2 1/2"},
		{"divide 1 2 =1/3", "", "", "3 1"},
		{"divide 2 1 =-1", "", "", "-2 6"},
		{"shift 0 1 2", "", "", "-3 3"},
		{"shift 2 1 0", "", "", "-3 3"},
		{"turn 0 1 2", "", "", "-3 -3"},
		{"turn 1 0 2", "", "", "1 1"},
		{"online 1 2", " 2/3", "", "2 2"},
		{"online 1 2", " 0", "", "4 0"},
		{"online 2 1", " -1", "", "-2 6"},
		{"oncircle 0 1", " 1", "", "0 -4"},
		{"oncircle 0 1", " 0", "", "-4 0"},
		{"oncircle 1 0", " -1/2", "", "32/5 -16/5"},
		{"oncircle 2 2", " 5", "", "1 3"},
		{"foot 2 0 1", "", "", "1 0"},
		{"foot 0 2 1", "", "", "2 2"},
		{"mirror 2 0 1", "", "", "1 -3"},
		{"mirror 0 1 2", "", "", "4 4"},
		{"meet 0 1 2 1", "", "", "4 0"},
		{"other 0 1 2", "", "", "2 0"},
		{"other 1 2 0", "", "", "0 4"},
		{"center 0 1 2", "", "", "2 1"},
		{"cut 0 1 2 0", "", "+", "2 0"},
		{"cut 0 1 2 0", "", "-", "0 0"},
		{"cut 1 0 2 0", "", "+", "0 0"},
		{"cut 1 0 2 0", "", "-", "2 0"},
		{"cross 0 2 1 2", "", "+", "1 3"},
		{"cross 0 2 1 2", "", "-", "1 -3"},
		{"cross 1 2 0 2", "", "+", "1 -3"},
		{"cross 1 2 0 2", "", "-", "1 3"},
	} {
		expectAt(t, "free, free, free, "+c.step, "4 1 3"+c.values, c.branches, "0 0 4 0 1 3 "+c.point)
	}
	expectAt(t, "free, free, free, free, meet 0 2 1 3", "4 1 3 0 2", "", "0 0 4 0 1 3 0 2 4/7 12/7")
}

// P26.2: the branches belong to the steps with two solutions in their order, and the values to the steps with parameters.
func TestAtOrder(t *testing.T) {
	const steps = "free, free, cut 0 1 1 0, free, cross 0 3 1 3, online 0 1, oncircle 0 1, cut 0 1 0 1"
	for branches, want := range map[string]string{
		"+++": "10 0 3 4 3 4 -5 0 0 -5 5 0", "-++": "0 0 3 4 3 4 -5 0 0 -5 5 0", "+-+": "10 0 3 4 3 -4 -5 0 0 -5 5 0", "++-": "10 0 3 4 3 4 -5 0 0 -5 -5 0", "---": "0 0 3 4 3 -4 -5 0 0 -5 -5 0",
	} {
		expectAt(t, steps, "5 3 4 -1 1", branches, "0 0 5 0 "+want)
	}
}

// P26.2: negative values, zero, fractions and long numbers.
func TestAtNumbers(t *testing.T) {
	const digits = "123456789012345678901234567890123456789012345678901234567890123456789"
	expectAt(t, "free, free, free, foot 2 0 1, shift 2 0 2", "-"+digits+" 1/"+digits+" 0", "", "0 0 -"+digits+" 0 1/"+digits+" 0 1/"+digits+" 0 2/"+digits+" 0")
	expectAt(t, "free, free, online 0 1, oncircle 0 1", "-1/2 "+digits+"000 0", "", "0 0 -1/2 0 -"+rational.Text(rational.Mul(number(digits+"000"), number("1/2")))+" 0 1/2 0")
	f := figure("free, free, divide 0 1 =1/2, mirror 0 1 1")
	expectAtError(t, f, numbers("-7"), nil, 3, api.ErrDegenerate)
	a := number("1")
	for range 14 { // a number with more digits than texts may have
		a = rational.Mul(rational.Add(a, number("1/3")), a)
	}
	x := atOf(t, figure("free, free, divide 0 1 =-2, foot 2 0 1"), []api.Rat{a}, nil)
	if want := rational.Mul(a, number("-2")); !rational.Equal(x.Points[3].X, want) || rational.Sign(x.Points[3].Y) != 0 || len(rational.Text(a)) < api.MaxDigits {
		t.Errorf("a number of %d digits", len(rational.Text(a)))
	}
}

// P26.2: numbers of values and branches that do not fit, at figures whose steps have errors, too.
func TestAtMismatch(t *testing.T) {
	for _, s := range []string{"free", "free, free, free", "free, free, online 0 1, apex 1 1, cut 0 1 0 1, foot 0 0 0", "free, mirror 0 0 0, oncircle 0 0", "free, cross 0 0 0 0"} {
		f := figure(s)
		params, branches, _ := instance.Choices(f)
		for n := range params + 3 {
			for m := range branches + 3 {
				values, l := make([]api.Rat, n), make([]bool, m)
				for i := range values {
					values[i] = rational.Of(i)
				}
				if n != params || m != branches {
					expectAtError(t, f, values, l, 0, api.ErrMismatch)
				} else if _, _, e := instance.At(f, values, l); e == api.ErrMismatch {
					t.Errorf("At of %s does not accept %d values and %d branches", s, n, m)
				}
			}
		}
	}
	expectAtError(t, api.Figure{}, numbers("0"), nil, 0, api.ErrMismatch)
	expectAtError(t, api.Figure{}, nil, signs("+"), 0, api.ErrMismatch)
}

// P26.2: the errors of coordinates.Of come before ErrMismatch.
func TestAtInvalid(t *testing.T) {
	for e, l := range wrong() {
		for _, s := range l {
			for n := range 4 {
				expectAtError(t, figure(s), make([]api.Rat, n), make([]bool, n), 0, e)
			}
		}
	}
}

// P26.2: each error of a step, at the step 4 behind four free points, and behind further steps.
func TestAtErrors(t *testing.T) {
	for _, c := range []struct {
		step, values string
		e            api.Errno
	}{
		{"foot 3 0 1", "0 1 3 2 2", api.ErrDegenerate},
		{"foot 3 1 1", "4 1 3 2 2", api.ErrDegenerate},
		{"mirror 3 0 2", "4 0 0 2 2", api.ErrDegenerate},
		{"meet 0 1 2 3", "4 1 3 2 3", api.ErrDegenerate},
		{"meet 0 1 2 3", "4 1 3 1 3", api.ErrDegenerate},
		{"meet 0 1 2 3", "0 1 3 2 2", api.ErrDegenerate},
		{"other 0 1 2", "0 1 3 2 2", api.ErrDegenerate},
		{"center 0 1 2", "4 1 0 2 2", api.ErrDegenerate},
		{"center 1 1 2", "4 1 3 2 2", api.ErrDegenerate},
		{"cut 0 1 2 3", "0 1 3 2 2", api.ErrDegenerate},
		{"cut 0 1 2 3", "4 1 3 2 3", api.ErrNone},
		{"cut 0 1 2 3", "4 1 3 2 7", api.ErrIrrational},
		{"cross 0 1 0 3", "4 1 3 2 2", api.ErrDegenerate},
		{"cross 0 1 2 3", "4 0 0 2 2", api.ErrDegenerate},
		{"cross 0 1 2 3", "1 1 3 2 3", api.ErrNone},
		{"cross 0 1 2 3", "9 1 3 2 3", api.ErrNone},
		{"cross 0 1 2 3", "4 1 3 2 1", api.ErrIrrational},
		{"apex 0 1", "0 1 3 2 2", api.ErrDegenerate},
		{"apex 2 2", "4 1 3 2 2", api.ErrDegenerate},
		{"apex 0 1", "4 1 3 2 2", api.ErrIrrational},
		{"apex 0 1", "-1/7 1 3 2 2", api.ErrIrrational},
	} {
		steps := "free, free, free, free, "
		for _, branch := range []string{"+", "-"} {
			if !strings.Contains("cut cross apex", strings.Fields(c.step)[0]) {
				branch = ""
			}
			expectAtError(t, figure(steps+c.step), numbers(c.values), signs(branch), 4, c.e)
			expectAtError(t, figure(steps+c.step+", shift 0 1 4, divide 4 4 =1/2"), numbers(c.values), signs(branch), 4, c.e)
			expectAtError(t, figure(steps+"shift 3 0 3, turn 0 1 2, "+c.step), numbers(c.values), signs(branch), 6, c.e)
		}
	}
}

// P26.2: of several steps with errors the first one decides, whatever its error is.
func TestAtFirstError(t *testing.T) {
	bad := map[string]api.Errno{"foot 2 0 0": api.ErrDegenerate, "apex 0 1": api.ErrIrrational, "cut 0 1 2 3": api.ErrNone, "cross 0 1 0 2": api.ErrDegenerate, "cross 0 1 2 0": api.ErrIrrational}
	const steps, values = "free, free, free, free, foot 2 0 1, ", "4 1 3 2 3"
	for first, e := range bad {
		for second := range bad {
			f := figure(steps + first + ", divide 0 1 =2, " + second)
			_, branches, _ := instance.Choices(f)
			expectAtError(t, f, numbers(values), make([]bool, branches), 5, e)
		}
	}
}

// P26.2: random figures with random choices.
func TestAtRandom(t *testing.T) {
	r := newSource()
	kinds, errors := map[int]int{}, map[api.Errno]int{}
	for range 20 * rounds {
		f := randomFigure(r, 5)
		values, branches := randomChoices(t, r, f)
		want := solve(t, f, values, branches)
		if errors[want.e]++; want.e != api.OK {
			expectAtError(t, f, values, branches, want.step, want.e)
			continue
		}
		x := atOf(t, f, values, branches)
		if showPoints(x.Points) != showPoints(want.points) || showNumbers(x.Values) != showNumbers(values) || len(x.Branches) != len(branches) {
			t.Fatalf("the instance of %v with %s and %v is %v", f, showNumbers(values), branches, x)
		}
		for _, s := range f.Steps {
			kinds[s.Kind]++
		}
	}
	for kind := api.StepFree; kind < api.StepApex; kind++ {
		if kinds[kind] < rounds/6 {
			t.Errorf("only %d steps of the kind %d", kinds[kind], kind)
		}
	}
	for _, e := range []api.Errno{api.OK, api.ErrDegenerate, api.ErrIrrational, api.ErrNone} {
		if errors[e] < rounds/10 {
			t.Errorf("only %d instances with the error %d", errors[e], e)
		}
	}
}
