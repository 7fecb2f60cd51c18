package conditions_test

import (
	"math"
	"slices"
	"strings"
	"testing"

	"geoprover/api"
	"geoprover/conditions"
	"geoprover/coordinates"
	"geoprover/lower"
	"geoprover/parser"
)

// many returns n equal steps.
func many(step string, n int) string {
	return strings.TrimSuffix(strings.Repeat(step+", ", n), ", ")
}

// P23.1: the example of the promise.
func TestOfExample(t *testing.T) {
	p, _, e := parser.Program("points A, B, C; D := foot(A, line(B, C)); prove perpendicular(line(A, D), line(B, C));")
	if e != api.OK {
		t.Fatal(e)
	}
	f, _, e := lower.Figure(p)
	if e != api.OK {
		t.Fatal(e)
	}
	expectOf(t, f, "distinct 1 2 @3")
	if l := ofFigure(t, f); l[0].Kind != 1 || !slices.Equal(l[0].Args, []int{1, 2}) || l[0].Step != 3 {
		t.Errorf("the condition is %v", l)
	}
}

// P23.1: the figure without steps, and figures without conditions.
func TestOfNothing(t *testing.T) {
	expectOf(t, api.Figure{}, "")
	expectOf(t, api.Figure{Steps: []api.Step{}}, "")
	expectOf(t, figure("free"), "")
	expectOf(t, figure("free, free, divide 0 1 =1/2, shift 0 1 2, turn 2 0 1, online 0 4"), "")
}

// P23.1: a step of each kind.
func TestOfKinds(t *testing.T) {
	for step, want := range map[string]string{
		"free":             "",
		"divide 1 2 =-1/3": "",
		"shift 3 1 2":      "",
		"turn 3 1 2":       "",
		"online 3 1":       "",
		"oncircle 3 1":     "slope @4",
		"foot 3 1 2":       "distinct 1 2 @4",
		"foot 1 3 0":       "distinct 3 0 @4",
		"mirror 0 2 1":     "distinct 2 1 @4",
		"meet 3 1 2 0":     "crossing 3 1 2 0 @4",
		"other 2 3 1":      "distinct 2 3 @4",
		"center 3 0 2":     "triangle 3 0 2 @4",
		"cut 2 0 3 1":      "distinct 2 0 @4",
		"cross 3 1 2 0":    "distinct 3 2 @4",
		"apex 3 2":         "distinct 3 2 @4",
		"oncircle 0 0":     "slope @4",
		"foot 3 2 2":       "distinct 2 2 @4",
		"meet 1 1 1 1":     "crossing 1 1 1 1 @4",
		"center 2 2 0":     "triangle 2 2 0 @4",
		"cross 1 1 1 1":    "distinct 1 1 @4",
	} {
		expectOf(t, figure("free, free, free, free, "+step), want)
		if want != "" {
			want = "distinct 0 1 @2, " + strings.Replace(want, "@4", "@5", 1) + ", slope @6"
			expectOf(t, figure("free, free, apex 0 1, free, free, "+step+", oncircle 5 0"), want)
		}
	}
}

// P23.1: equal conditions of different steps are all listed.
func TestOfEqual(t *testing.T) {
	expectOf(t, figure("free, free, free, foot 2 0 1, mirror 2 0 1, apex 0 1, cut 0 1 2 0, apex 0 1, apex 1 0, oncircle 0 1, oncircle 0 1"),
		"distinct 0 1 @3, distinct 0 1 @4, distinct 0 1 @5, distinct 0 1 @6, distinct 0 1 @7, distinct 1 0 @8, slope @9, slope @10")
	expectOf(t, figure("free, "+many("apex 0 0", 3)), "distinct 0 0 @1, distinct 0 0 @2, distinct 0 0 @3")
}

// P23.1: goals play no part.
func TestOfGoals(t *testing.T) {
	f := figure("free, free, apex 0 1")
	f.Goals = []api.Fact{{Kind: api.FactSame, Args: []int{0, 1}}, {Kind: api.FactCollinear, Args: []int{2, 1, 0}}}
	expectOf(t, f, "distinct 0 1 @2")
}

// P23.1: random figures.
func TestOfRandom(t *testing.T) {
	r, kinds := newSource(), map[int]int{}
	for range rounds {
		f := randomFigure(r, 20)
		expectOf(t, f, write(model(f)...))
		for _, c := range ofFigure(t, f) {
			kinds[c.Kind]++
		}
	}
	for kind := api.CondDistinct; kind <= api.CondSlope; kind++ {
		if kinds[kind] < rounds/3 {
			t.Errorf("only %d conditions of the kind %d", kinds[kind], kind)
		}
	}
}

// P23.1: each error of coordinates.Of.
func TestOfErrors(t *testing.T) {
	for steps, want := range map[string]api.Errno{
		"none":                           api.ErrKind,
		"apex 0 0":                       api.ErrRange,
		"free, apex 0":                   api.ErrArg,
		"free, apex 0 1":                 api.ErrRange,
		"free, divide 0 0":               api.ErrArg,
		"free, free =1":                  api.ErrArg,
		many("free", 34):                 api.ErrLarge,
		many("free", 41):                 api.ErrLarge,
		"free, " + many("apex 0 0", 33):  api.ErrLarge,
		"free, apex 0 0, foot 0 1, none": api.ErrArg,
	} {
		f := figure(steps)
		expectError(t, f, want)
		if _, e := coordinates.Of(f); e != want {
			t.Errorf("coordinates.Of of %s has the error %d, want %d", steps, e, want)
		}
	}
	expectError(t, figure(longLine(13)), api.ErrLarge)
	f := figure("free, free, apex 0 1")
	f.Steps[2].Point = "on"
	expectError(t, f, api.ErrName)
	f.Steps[2].Point, f.Steps[0].Point = "A", "A"
	expectError(t, f, api.ErrTwice)
	f.Steps[2].Point = ""
	f.Goals = []api.Fact{{}}
	expectError(t, f, api.ErrKind)
	f.Goals = make([]api.Fact, api.MaxGoals+1)
	expectError(t, f, api.ErrLarge)
	expectOf(t, figure("free, "+many("apex 0 0", 32)), strings.Join(conditionsOfApexes(32), ", "))
}

// longLine returns steps of a figure behind three free points: n points of lines, whose coordinates have more and more terms.
func longLine(n int) string {
	steps := "free, free, free"
	for i := range n {
		steps += ", online " + string(rune('0'+(i+1)/10)) + string(rune('0'+(i+1)%10)) + " " + string(rune('0'+(i+2)/10)) + string(rune('0'+(i+2)%10))
	}
	return steps
}

// conditionsOfApexes returns the texts of the conditions of n apexes of the segment from the point 0 to itself.
func conditionsOfApexes(n int) []string {
	var l []string
	for i := range n {
		l = append(l, write(condition(api.CondDistinct, i+1, 0, 0)))
	}
	return l
}

// expectRight fails unless Right returns want, and Poly returns ErrArg and no polynomial if that is false.
func expectRight(t *testing.T, c api.Condition, f api.Figure, want bool) {
	t.Helper()
	if got := conditions.Right(c, f); got != want {
		t.Errorf("Right of %s for %v is %v", write(c), f, got)
	}
	x := frameOf(t, f)
	p, e := conditions.Poly(c, f, x)
	if want && e != api.OK || !want && (e != api.ErrArg || len(p) > 0) {
		t.Errorf("Poly of %s for %v is %s, %d", write(c), f, show(p), e)
	}
}

// P23.1, P23.2: conditions that differ from a right one in one part.
func TestRight(t *testing.T) {
	f := figure("free, free, free, foot 2 0 1, meet 0 1 2 3, center 0 1 2, oncircle 2 0, apex 0 1, online 0 1, cross 0 1 2 3")
	right := ofFigure(t, f)
	if len(right) != 6 {
		t.Fatalf("the conditions are %s", write(right...))
	}
	for _, c := range right {
		expectRight(t, c, f, true)
		for _, kind := range []int{0, -1, 1, 2, 3, 4, 5, math.MinInt, math.MaxInt} {
			expectRight(t, api.Condition{Kind: kind, Args: c.Args, Step: c.Step}, f, kind == c.Kind)
		}
		for step := -1; step <= len(f.Steps)+1; step++ {
			other := api.Condition{Kind: c.Kind, Args: c.Args, Step: step}
			expectRight(t, other, f, slices.ContainsFunc(right, func(d api.Condition) bool { return write(d) == write(other) }))
		}
		for _, step := range []int{math.MinInt, math.MaxInt} {
			expectRight(t, api.Condition{Kind: c.Kind, Args: c.Args, Step: step}, f, false)
		}
		expectRight(t, api.Condition{Kind: c.Kind, Args: append(slices.Clone(c.Args), 0), Step: c.Step}, f, false)
		for k := range c.Args {
			for _, a := range []int{-1, 5, c.Args[k] + 1, math.MinInt, math.MaxInt} {
				args := slices.Clone(c.Args)
				args[k] = a
				expectRight(t, api.Condition{Kind: c.Kind, Args: args, Step: c.Step}, f, false)
			}
			expectRight(t, api.Condition{Kind: c.Kind, Args: slices.Delete(slices.Clone(c.Args), k, k+1), Step: c.Step}, f, false)
			expectRight(t, api.Condition{Kind: c.Kind, Args: slices.Insert(slices.Clone(c.Args), k, c.Args[k]), Step: c.Step}, f, false)
		}
		if len(c.Args) > 0 {
			expectRight(t, api.Condition{Kind: c.Kind, Step: c.Step}, f, false)
			args := slices.Clone(c.Args)
			slices.Reverse(args) // the same condition for the points, but not one of the list
			expectRight(t, api.Condition{Kind: c.Kind, Args: args, Step: c.Step}, f, false)
		}
	}
}

// P23.1: a nil slice and an empty one are the same (R4), and equal conditions of different steps are right for both.
func TestRightEqual(t *testing.T) {
	f := figure("free, free, oncircle 0 1, apex 0 1, apex 0 1, apex 1 0")
	expectRight(t, api.Condition{Kind: api.CondSlope, Step: 2}, f, true)
	expectRight(t, api.Condition{Kind: api.CondSlope, Args: []int{}, Step: 2}, f, true)
	expectRight(t, condition(api.CondDistinct, 3, 0, 1), f, true)
	expectRight(t, condition(api.CondDistinct, 4, 0, 1), f, true)
	expectRight(t, condition(api.CondDistinct, 5, 0, 1), f, false)
	expectRight(t, condition(api.CondDistinct, 5, 1, 0), f, true)
	expectRight(t, condition(api.CondDistinct, 2, 0, 1), f, false)
	expectRight(t, condition(api.CondSlope, 3), f, false)
}

// P23.1: no condition is right for a step without one.
func TestRightWithout(t *testing.T) {
	for _, steps := range []string{"free", "free, free", "free, free, divide 0 1 =2", "free, free, shift 0 1 0", "free, free, turn 0 0 1", "free, free, online 0 1"} {
		f := figure(steps)
		step := len(f.Steps) - 1
		for kind := range 6 {
			for _, args := range [][]int{nil, {0, 1}, {0, 1, 0}, {0, 0}, {0, 1, 0, 1}} {
				expectRight(t, api.Condition{Kind: kind, Args: args, Step: step}, f, false)
				expectRight(t, api.Condition{Kind: kind, Args: args, Step: step + 1}, f, false)
			}
		}
	}
	expectRight(t, api.Condition{}, api.Figure{}, false)
	expectRight(t, api.Condition{Kind: api.CondSlope}, api.Figure{}, false)
}

// P23.1: Right needs no frame, so that it also knows the conditions of figures that are too large for one.
func TestRightLarge(t *testing.T) {
	f := figure(many("free", 36) + ", apex 3 4")
	expectError(t, f, api.ErrLarge)
	if !conditions.Right(condition(api.CondDistinct, 36, 3, 4), f) || conditions.Right(condition(api.CondDistinct, 36, 4, 3), f) {
		t.Error("Right of a figure with too many variables")
	}
}

// P23.1: random conditions.
func TestRightRandom(t *testing.T) {
	r, count := newSource(), map[bool]int{}
	for range 10 * rounds {
		f := randomFigure(r, 5)
		c := api.Condition{Kind: r.Intn(6), Step: r.Intn(len(f.Steps)+2) - 1}
		if l := model(f); len(l) > 0 && r.Intn(4) > 0 {
			c = l[r.Intn(len(l))]
		}
		switch k := r.Intn(len(c.Args) + 1); r.Intn(8) {
		case 0:
			c.Kind = r.Intn(6)
		case 1:
			c.Step = r.Intn(len(f.Steps))
		case 2:
			c.Args = slices.Insert(c.Args, k, r.Intn(4))
		case 3:
			c.Args = append(c.Args[:k], c.Args[min(k+1, len(c.Args)):]...)
		case 4:
			if k < len(c.Args) {
				c.Args[k] = r.Intn(len(f.Steps))
			}
		}
		want := slices.ContainsFunc(model(f), func(d api.Condition) bool {
			return c.Kind == d.Kind && c.Step == d.Step && slices.Equal(c.Args, d.Args)
		})
		expectRight(t, c, f, want)
		count[want]++
	}
	if count[true] < rounds || count[false] < rounds {
		t.Errorf("only %d conditions are right", count[true])
	}
}
