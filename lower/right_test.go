package lower_test

import (
	"math"
	"math/rand"
	"slices"
	"strings"
	"testing"

	"geoprover/api"
	"geoprover/lower"
)

// arities returns the numbers of arguments of the kinds of steps by the table of DOC.md.
func arities() map[int]int {
	return map[int]int{
		api.StepFree: 0, api.StepDivide: 2, api.StepShift: 3, api.StepTurn: 3, api.StepOnLine: 2, api.StepOnCircle: 2, api.StepFoot: 3,
		api.StepMirror: 3, api.StepMeet: 4, api.StepOther: 3, api.StepCenter: 3, api.StepCut: 4, api.StepCross: 4, api.StepApex: 2,
	}
}

// P20.1
func TestArity(t *testing.T) {
	for kind := -50; kind < 300; kind++ {
		want, found := arities()[kind]
		if !found {
			want = -1
		}
		if got := lower.Arity(kind); got != want {
			t.Errorf("Arity(%d) is %d, want %d", kind, got, want)
		}
	}
	for _, kind := range []int{math.MinInt, math.MaxInt, 1 << 32, 1<<32 + api.StepFree, 256 + api.StepMeet} {
		if got := lower.Arity(kind); got != -1 {
			t.Errorf("Arity(%d) is %d", kind, got)
		}
	}
}

// four is the steps of four points with names.
const four = "free:A, free:B, free:C, free:D"

// P20.1: valid figures, the one without steps and goals first.
func TestRightFigures(t *testing.T) {
	expectRight(t, api.Figure{}, api.OK)
	expectRight(t, api.Figure{Steps: []api.Step{}, Goals: []api.Fact{}}, api.OK)
	for _, s := range []string{
		"divide 0 1 =1/2", "divide 1 1 =-7", "divide 3 0 =0", "shift 0 1 2", "turn 3 1 2", "online 2 1", "oncircle 0 1", "foot 3 1 2", "mirror 0 1 2",
		"meet 0 1 2 3", "other 0 1 2", "center 0 1 2", "cut 0 1 2 3", "cross 0 1 2 3", "apex 3 0", "free", "meet 0 0 0 0", "shift 3 3 3",
	} {
		expectRight(t, figure(four+", "+s, ""), api.OK)
		expectRight(t, figure(four+", "+s+":E", "same 4 0"), api.OK)
		expectRight(t, figure(four+", "+s+", "+s+", apex 5 4:e", "same 6 4"), api.OK)
	}
	expectRight(t, figure("free", ""), api.OK)
	expectRight(t, figure("free, free, free:A, free", "collinear 0 1 3, same 2 2"), api.OK)
	for _, f := range []api.Figure{figure(four, "ratio 0 1 2 3 =-1/2"), figure(four, "angle 0 1 2 3 3 2 1 0"), figure(four, "collinear 0 0 0, same 3 3, midpoint 0 1 2")} {
		expectRight(t, f, api.OK)
	}
}

// P20.1: the numbers of points and of goals.
func TestRightLimits(t *testing.T) {
	f := figure("free", "same 0 0")
	steps, goals := slices.Repeat(f.Steps, api.MaxPoints), slices.Repeat(f.Goals, api.MaxGoals)
	expectRight(t, api.Figure{Steps: steps, Goals: goals}, api.OK)
	expectRight(t, api.Figure{Steps: append(steps, f.Steps...), Goals: goals}, api.ErrLarge)
	expectRight(t, api.Figure{Steps: steps, Goals: append(goals, f.Goals...)}, api.ErrLarge)
	expectRight(t, api.Figure{Steps: append(steps, f.Steps...)}, api.ErrLarge)
	expectRight(t, api.Figure{Steps: f.Steps, Goals: append(goals, f.Goals...)}, api.ErrLarge)
	expectRight(t, api.Figure{Steps: make([]api.Step, api.MaxPoints)}, api.ErrKind)
	expectRight(t, api.Figure{Steps: make([]api.Step, api.MaxPoints+1)}, api.ErrLarge)
	expectRight(t, api.Figure{Goals: make([]api.Fact, api.MaxGoals)}, api.ErrKind)
	expectRight(t, api.Figure{Goals: make([]api.Fact, api.MaxGoals+1)}, api.ErrLarge)
	expectRight(t, api.Figure{Steps: make([]api.Step, 1000), Goals: make([]api.Fact, 1000)}, api.ErrLarge)
}

// P20.1: kinds of steps that do not exist.
func TestRightKinds(t *testing.T) {
	for _, kind := range []int{0, -1, 15, 16, 40, math.MinInt, math.MaxInt} {
		for _, args := range [][]int{nil, {0}, {0, 1}, {0, 1, 2}, {0, 1, 2, 3}, {9}} {
			f := figure(four, "")
			f.Steps = append(f.Steps, api.Step{Kind: kind, Args: args, Point: "A"})
			expectRight(t, f, api.ErrKind)
		}
	}
}

// P20.1: numbers of arguments, and arguments that are no earlier points, of each kind.
func TestRightArguments(t *testing.T) {
	for kind, arity := range arities() {
		s := api.Step{Kind: kind, Point: "X"}
		if kind == api.StepDivide {
			s.Ratio = number("1/3")
		}
		for n := range 9 {
			s.Args = []int{3, 0, 2, 1, 0, 1, 2, 3, 0}[:n]
			want := api.ErrArg
			if n == arity {
				want = api.OK
			}
			f := figure(four, "")
			f.Steps = append(f.Steps, s)
			expectRight(t, f, want)
		}
		for i := range arity {
			for _, a := range []int{-1, 4, 5, math.MinInt, math.MaxInt} { // the point itself, a later one, and others
				s.Args = []int{3, 0, 2, 1}[:arity]
				s.Args[i] = a
				f := figure(four, "")
				f.Steps = append(f.Steps, s, api.Step{Kind: api.StepFree})
				expectRight(t, f, api.ErrRange)
			}
		}
	}
	expectRight(t, figure("shift 0 0 0", ""), api.ErrRange)
	expectRight(t, figure("free:A, apex 0 1:B, free:C", ""), api.ErrRange)
	expectRight(t, figure("free:A, apex 0 2:B, free:C", ""), api.ErrRange)
	expectRight(t, figure("apex 1 1, free:A", ""), api.ErrRange)
}

// wrongRatios returns numbers that are not valid, but are not the zero value of api.Rat.
func wrongRatios() []api.Rat {
	one := api.Nat{1}
	return []api.Rat{
		{Num: api.Int{Abs: one}},
		{Num: api.Int{Neg: true}, Den: one},
		{Num: api.Int{Neg: true}},
		{Num: api.Int{Abs: api.Nat{2}}, Den: api.Nat{4}},
		{Num: api.Int{Abs: one}, Den: api.Nat{3, 0}},
		{Num: api.Int{Abs: api.Nat{1, 0}}, Den: one},
		{Den: api.Nat{2}},
		{Den: api.Nat{0}},
		{Num: api.Int{Abs: api.Nat{0}}},
	}
}

// P20.1: the Ratio of each kind.
func TestRightRatios(t *testing.T) {
	for kind, arity := range arities() {
		with := func(r api.Rat) api.Figure {
			f := figure(four, "")
			f.Steps = append(f.Steps, api.Step{Kind: kind, Args: []int{0, 1, 2, 3}[:arity], Ratio: r})
			return f
		}
		valid, none := api.ErrArg, api.OK
		if kind == api.StepDivide {
			valid, none = api.OK, api.ErrArg
		}
		for _, s := range []string{"0", "1", "-1/2", "123456789012345678901234567890/7"} {
			expectRight(t, with(number(s)), valid)
		}
		expectRight(t, with(api.Rat{}), none)
		expectRight(t, with(api.Rat{Num: api.Int{Abs: api.Nat{}}, Den: api.Nat{}}), none)
		for _, r := range wrongRatios() {
			expectRight(t, with(r), api.ErrArg)
		}
	}
}

// P20.1: names of points.
func TestRightNames(t *testing.T) {
	for _, s := range []string{"A", "a", "M1", "lines", strings.Repeat("x", api.MaxName)} {
		expectRight(t, figure("free, free:"+s+", free", ""), api.OK)
		expectRight(t, figure("free:"+s+", free, free:"+s, ""), api.ErrTwice)
		expectRight(t, figure("free:"+s+", free:"+s, ""), api.ErrTwice)
		expectRight(t, figure("free:X, free:Y, apex 0 1:"+s+", apex 0 1:Z, apex 1 0:"+s+", free:U", ""), api.ErrTwice)
	}
	for _, s := range []string{"1", "on", "points", "a_b", "$1", " ", "A ", "é", strings.Repeat("x", api.MaxName+1)} {
		f := figure("free, free, apex 0 1", "")
		f.Steps[2].Point = s
		expectRight(t, f, api.ErrName)
	}
	expectRight(t, figure("free:A, free:a, free:AA", ""), api.OK)
}

// P20.1: goals, by predicate.Right.
func TestRightGoals(t *testing.T) {
	for goals, want := range map[string]api.Errno{
		"same 0 3":                api.OK,
		"same 0 4":                api.ErrRange,
		"same -1 0":               api.ErrRange,
		"same 0":                  api.ErrArg,
		"same 0 1 2":              api.ErrArg,
		"same 0 1 =1":             api.ErrArg,
		"ratio 0 1 2 3":           api.ErrArg,
		"apex 0 1":                api.ErrKind, // no goal
		"same 0 3, collinear 0 1": api.ErrArg,
		"same 0 9, collinear 0 1": api.ErrRange, // the first one decides
		"apex 0 9, same 0 9":      api.ErrKind,
		"same 0 3, ratio 0 1 2 4": api.ErrRange,
		"same 0 3, angle 0 1 2 3": api.ErrArg,
		"collinear 0 1 2, same 0 1, parallel 0 1 2 3": api.OK,
	} {
		expectRight(t, figure(four, goals), want)
	}
	expectRight(t, figure("", "same 0 0"), api.ErrRange)
	for kind := -2; kind < 13; kind++ {
		want := api.ErrKind
		if kind >= api.FactCollinear && kind <= api.FactRatio {
			want = api.ErrArg
		}
		f := figure(four, "")
		f.Goals = []api.Fact{{Kind: kind, Args: []int{9}}}
		expectRight(t, f, want)
	}
}

// P20.1: of several errors, the one that the chapter names first.
func TestRightOrder(t *testing.T) {
	for _, x := range []struct {
		steps, goals string
		e            api.Errno
	}{
		// within one step
		{four + ", none 9 9 =1:A", "", api.ErrKind},
		{four + ", apex 9 9 9 =1:A", "", api.ErrArg},
		{four + ", shift 0 9:A", "", api.ErrArg},
		{four + ", apex 0 9 =1:1", "", api.ErrRange},
		{four + ", divide 0 9:A", "", api.ErrRange},
		{four + ", divide 0 1:A", "", api.ErrArg},
		{four + ", divide 0 1:1", "", api.ErrArg},
		{four + ", apex 0 1 =1:1", "", api.ErrArg},
		{four + ", apex 0 1 =1:A", "", api.ErrArg},
		{four + ", divide 0 1 =1:1", "", api.ErrName},
		{four + ", divide 0 1 =1:A", "", api.ErrTwice},
		// the first step with an error, and steps before goals
		{four + ", free:A, none", "", api.ErrTwice},
		{four + ", free:1, none", "", api.ErrName},
		{four + ", apex 0 9, none", "", api.ErrRange},
		{four + ", none, apex 0", "", api.ErrKind},
		{four + ", apex 0, free:A", "", api.ErrArg},
		{four + ", free:A", "none 0", api.ErrTwice},
		{four + ", free:E", "none 0", api.ErrKind},
	} {
		expectRight(t, figure(x.steps, x.goals), x.e)
	}
}

// damage changes one part of a figure of at least one step.
func damage(r *rand.Rand, f api.Figure) api.Figure {
	f.Steps, f.Goals = slices.Clone(f.Steps), slices.Clone(f.Goals)
	i := r.Intn(len(f.Steps))
	s := &f.Steps[i]
	ratios := append(wrongRatios(), number("1"), number("-2/3"), api.Rat{})
	switch r.Intn(8) {
	case 0:
		s.Kind = r.Intn(17) - 1
	case 1:
		s.Args = append(slices.Clone(s.Args), 0)
	case 2:
		s.Args = s.Args[:len(s.Args)/2]
	case 3:
		s.Args = slices.Clone(s.Args)
		for k := range s.Args {
			s.Args[k] += r.Intn(5) - 2
		}
	case 4:
		s.Ratio = ratios[r.Intn(len(ratios))]
	case 5:
		s.Point = []string{"", "1", "on", "Z", f.Steps[r.Intn(len(f.Steps))].Point}[r.Intn(5)]
	case 6:
		f.Steps = slices.Delete(f.Steps, i, i+1)
	case 7:
		if len(f.Goals) > 0 {
			g := &f.Goals[r.Intn(len(f.Goals))]
			g.Args = slices.Clone(g.Args)
			g.Args[r.Intn(len(g.Args))] += r.Intn(len(f.Steps))
			g.Ratio = ratios[r.Intn(len(ratios))]
		}
	}
	return f
}

// rightOf returns what Right has to return for a figure that is not too large, where conditions are written as a list in the order of the chapter.
func rightOf(f api.Figure) api.Errno {
	type condition struct {
		broken bool
		e      api.Errno
	}
	var l []condition
	for i, s := range f.Steps {
		arity, found := arities()[s.Kind]
		later := slices.ContainsFunc(s.Args, func(a int) bool { return a < 0 || a >= i })
		named := slices.ContainsFunc(f.Steps[:i], func(x api.Step) bool { return x.Point == s.Point })
		l = append(l, condition{!found, api.ErrKind}, condition{len(s.Args) != arity, api.ErrArg}, condition{later, api.ErrRange},
			condition{!rightRatio(s.Ratio, s.Kind == api.StepDivide), api.ErrArg}, condition{s.Point == "1" || s.Point == "on", api.ErrName}, condition{named && s.Point != "", api.ErrTwice})
	}
	for _, g := range f.Goals {
		later := slices.ContainsFunc(g.Args, func(a int) bool { return a < 0 || a >= len(f.Steps) })
		l = append(l, condition{later, api.ErrRange}, condition{!rightRatio(g.Ratio, g.Kind == api.FactRatio), api.ErrArg})
	}
	for _, x := range l {
		if x.broken {
			return x.e
		}
	}
	return api.OK
}

// rightRatio reports whether a number that damage writes may stand where a Ratio is required, or is not.
func rightRatio(a api.Rat, required bool) bool {
	for _, wrong := range wrongRatios() {
		if row(nil, 0, nil, a) == row(nil, 0, nil, wrong) {
			return false
		}
	}
	return (len(a.Den) > 0) == required
}

// P20.1: random figures with an error in one place.
func TestRightRandom(t *testing.T) {
	r, met := newSource(), map[api.Errno]int{}
	for range 4 * rounds {
		f := randomFigure(t, r, 8)
		expectRight(t, f, api.OK)
		f = damage(r, f)
		want := rightOf(f)
		met[want]++
		expectRight(t, f, want)
	}
	for _, e := range []api.Errno{api.OK, api.ErrKind, api.ErrArg, api.ErrRange, api.ErrName, api.ErrTwice} {
		if met[e] < rounds/20 {
			t.Errorf("only %d figures have the error %d", met[e], e)
		}
	}
}
