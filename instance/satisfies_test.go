package instance_test

import (
	"strings"
	"testing"

	"geoprover/api"
	"geoprover/instance"
	"geoprover/rational"
)

// expectSatisfies fails unless Satisfies returns want.
func expectSatisfies(t *testing.T, p api.Problem, x api.Instance, want bool) {
	t.Helper()
	if got, e := instance.Satisfies(p, x); got != want || e != api.OK {
		t.Errorf("Satisfies is %v, %d for the values %s and the points %s, want %v", got, e, showNumbers(x.Values), showPoints(x.Points), want)
	}
}

// P26.4: the first or the second hypothesis of a step is not 0.
func TestSatisfiesHypotheses(t *testing.T) {
	for _, c := range []struct{ step, values, good, first, second string }{ // the last three are the point, one where only the first hypothesis is not 0, and one where only the second one is not
		{"oncircle 0 1", "4 1 3 1", "0 -4", "1 -4", "0 4"},
		{"foot 2 0 1", "4 1 3", "1 0", "1 1", "2 0"},
		{"mirror 2 0 1", "4 1 3", "1 -3", "2 -3", "1 3"},
		{"meet 0 1 1 2", "4 1 3", "4 0", "3 1", "3 0"},
		{"other 0 1 2", "4 1 3", "2 0", "3 0", "2 1"},
		{"center 0 1 2", "4 1 3", "2 1", "-1 2", "2 2"},
		{"cut 0 1 2 0", "4 1 3", "2 0", "2 6", "3 0"},
		{"cross 0 2 1 2", "4 1 3", "1 -3", "7 3", "3 1"},
	} {
		p := makeOf(t, figure("free, free, free, "+c.step))
		for point, want := range map[string]string{c.good: "00", c.first: "10", c.second: "01"} {
			x := api.Instance{Values: numbers(c.values), Points: points("0 0 4 0 1 3 " + point)}
			if c.step[:3] == "cut" || c.step[:3] == "cro" {
				x.Branches = signs("+")
			}
			l, _ := instance.Values(p, x)
			got := ""
			for _, h := range p.Hyps {
				got += map[bool]string{true: "0", false: "1"}[rational.Sign(eval(t, h, l)) == 0]
			}
			if got != want {
				t.Errorf("the hypotheses of %s at %s are not 0: %s, want %s", c.step, point, got, want)
			}
			expectSatisfies(t, p, x, point == c.good)
		}
	}
}

// P26.4: one hypothesis of one of several steps is not 0.
func TestSatisfiesOneHypothesis(t *testing.T) {
	f := figure("free, free, free, foot 2 0 1, foot 0 1 2, meet 2 3 0 4")
	p, x := makeOf(t, f), atOf(t, f, numbers("4 1 3"), nil)
	expectSatisfies(t, p, x, true)
	for i := 3; i < 6; i++ {
		for _, move := range []string{"1 0", "0 1", "1/1000000 0", "0 -1/1000000", "-2 5"} {
			x := atOf(t, f, numbers("4 1 3"), nil)
			q := points(move)[0]
			x.Points[i] = api.Point{X: rational.Add(x.Points[i].X, q.X), Y: rational.Add(x.Points[i].Y, q.Y)}
			expectSatisfies(t, p, x, false)
		}
	}
}

// P26.4: the polynomial of one condition is 0, although all hypotheses are.
func TestSatisfiesConditions(t *testing.T) {
	for _, c := range []struct{ step, values, points string }{
		{"foot 2 0 1", "0 1 3", "0 0 0 0 1 3 5 6"},
		{"mirror 2 0 1", "0 1 3", "0 0 0 0 1 3 5 6"},
		{"meet 0 1 1 2", "4 1 0", "0 0 4 0 1 0 5 0"},
		{"other 0 1 2", "0 1 3", "0 0 0 0 1 3 5 6"},
		{"center 0 0 0", "4 1 3", "0 0 4 0 1 3 5 6"},
		{"center 0 1 1", "4 1 3", "0 0 4 0 1 3 2 7"},
		{"cut 0 1 2 0", "0 1 3", "0 0 0 0 1 3 0 0"},
		{"cross 0 2 0 2", "4 1 3", "0 0 4 0 1 3 3 1"},
		{"apex 0 1", "0 1 3", "0 0 0 0 1 3 0 0"},
		{"apex 2 2", "4 1 3", "0 0 4 0 1 3 1 3"},
		{"foot 2 0 1, foot 2 1 0", "0 1 3", "0 0 0 0 1 3 5 6 7 8"},
		{"foot 1 0 2, foot 2 1 1", "4 0 3", "0 0 4 0 0 3 0 0 7 8"},
	} {
		p := makeOf(t, figure("free, free, free, "+c.step))
		x := api.Instance{Values: numbers(c.values), Points: points(c.points)}
		l, _ := instance.Values(p, x)
		for _, h := range p.Hyps {
			if rational.Sign(eval(t, h, l)) != 0 {
				t.Fatalf("a hypothesis of %s is not 0 at %s", c.step, c.points)
			}
		}
		expectSatisfies(t, p, x, false)
		p.Conds = nil
		expectSatisfies(t, p, x, true)
	}
}

// P26.4: points that do not have the values of their coordinates, for each kind of step whose coordinates are polynomials.
func TestSatisfiesCoordinates(t *testing.T) {
	for _, c := range []struct{ steps, values string }{
		{"free", ""},
		{"free, free", "4"},
		{"free, free, free", "4 1 3"},
		{"free, free, divide 0 1 =1/3", "4"},
		{"free, free, free, shift 1 2 0", "4 1 3"},
		{"free, free, free, turn 2 0 1", "4 1 3"},
		{"free, free, free, online 1 2", "4 1 3 -1/2"},
		{"free, free, free, foot 2 0 1, divide 2 3 =-1", "4 1 3"},
		{"free, free, free, foot 2 0 1, online 2 3, shift 0 3 4", "4 1 3 7"},
	} {
		f := figure(c.steps)
		p := makeOf(t, f)
		expectSatisfies(t, p, atOf(t, f, numbers(c.values), nil), true)
		last := len(f.Steps) - 1
		for _, move := range []string{"1 0", "0 1", "0 -1/1000000", "1/1000000 0"} {
			x := atOf(t, f, numbers(c.values), nil)
			q := points(move)[0]
			x.Points[last] = api.Point{X: rational.Add(x.Points[last].X, q.X), Y: rational.Add(x.Points[last].Y, q.Y)}
			expectSatisfies(t, p, x, false)
		}
		for i := range numbers(c.values) { // and values that are not those of the points
			x := atOf(t, f, numbers(c.values), nil)
			x.Values[i] = rational.Add(x.Values[i], number("1/1000000"))
			expectSatisfies(t, p, x, false)
		}
	}
	x := api.Instance{Values: numbers("4"), Points: points("1 0 5 0")} // a translation of the right points
	expectSatisfies(t, makeOf(t, figure("free, free")), x, false)
	expectSatisfies(t, makeOf(t, figure("free, free")), api.Instance{Values: numbers("4"), Points: points("0 0 0 4")}, false)
	expectSatisfies(t, api.Problem{}, api.Instance{}, true)
}

// P26.4: goals and branches play no part.
func TestSatisfiesOthers(t *testing.T) {
	f := figure("free, free, cut 0 1 0 1 | same 0 1, collinear 0 1 2")
	x := atOf(t, f, numbers("3"), signs("+"))
	expectSatisfies(t, makeOf(t, f), x, true)
	x.Branches = signs("-")
	expectSatisfies(t, makeOf(t, f), x, true)
	x.Branches = nil
	expectSatisfies(t, makeOf(t, f), x, true)
}

// expectViolates fails unless Violates returns want and e.
func expectViolates(t *testing.T, p api.Problem, goal int, x api.Instance, want bool, e api.Errno) {
	t.Helper()
	if got, gotE := instance.Violates(p, goal, x); got != want || gotE != e {
		t.Errorf("Violates of the goal %d is %v, %d for the points %s, want %v, %d", goal, got, gotE, showPoints(x.Points), want, e)
	}
}

// P26.5: facts of each kind at the square with the corners (0, 0), (4, 0), (4, 4), (0, 4) and its center (2, 2).
func TestViolates(t *testing.T) {
	const square = "free, free, free, free, center 0 1 2 | "
	for facts, want := range map[string]string{
		"collinear 0 4 2, collinear 0 1 2, collinear 1 1 2":                                           "01 0",
		"parallel 0 1 2 3, parallel 0 1 1 2, parallel 0 2 4 2, parallel 0 2 1 3":                      "01 01",
		"perpendicular 0 2 3 1, perpendicular 0 1 3 0, perpendicular 0 1 0 2":                         "0 01",
		"congruent 4 0 4 2, congruent 0 1 0 2, congruent 0 2 1 3":                                     "01 0",
		"midpoint 4 0 2, midpoint 4 0 1, midpoint 4 0 3, midpoint 4 1 3, midpoint 0 1 2":              "0 1 1 01",
		"concyclic 0 1 2 3, concyclic 0 1 2 4, concyclic 0 0 1 3":                                     "01 0",
		"angle 0 1 0 2 0 2 0 3, angle 0 1 0 2 0 3 0 2, angle 0 1 1 2 2 3 3 0":                         "0 10",
		"same 0 0, same 0 1, same 1 2, same 0 3, same 0 2, same 3 3":                                  "0 1111 0",
		"ratio 0 2 0 1 =2, ratio 0 1 0 2 =2, ratio 0 4 0 1 =1/2, ratio 0 0 1 2 =0, ratio 0 0 0 1 =-1": "01 001",
	} {
		f := figure(square + facts)
		p, x := makeOf(t, f), atOf(t, f, numbers("4 4 4 0 4"), nil)
		for goal, sign := range strings.ReplaceAll(want, " ", "") {
			expectViolates(t, p, goal, x, sign == '1', api.OK)
		}
		if n := len(strings.ReplaceAll(want, " ", "")); n != len(f.Goals) {
			t.Errorf("there are %d goals %s", len(f.Goals), facts)
		}
	}
}

// P26.5: facts of two polynomials of which only the first one, only the second one, or both are not 0.
func TestViolatesOneOfTwo(t *testing.T) {
	f := figure("free, free, free, divide 1 2 =1/2 | same 2 0, same 2 1, midpoint 3 1 2, midpoint 2 0 1, midpoint 2 0 3")
	p := makeOf(t, f)
	for values, want := range map[string]string{
		"4 0 0": "01011", "4 0 3": "11011", "4 4 0": "10011", "4 4 3": "11011", "4 2 3": "11011", "4 2 0": "11001", "0 0 0": "00000", "4 4/3 0": "11010", "4 4/3 1": "11011", "4 0 -1/9": "11011",
	} {
		x := atOf(t, f, numbers(values), nil)
		for goal, sign := range want {
			expectViolates(t, p, goal, x, sign == '1', api.OK)
		}
	}
}

// P26.5: goals that do not exist, and instances that do not fit. ErrRange comes first.
func TestViolatesErrors(t *testing.T) {
	f := figure("free, free | same 0 1, same 0 0, same 1 1")
	p, x := makeOf(t, f), atOf(t, f, numbers("4"), nil)
	wrong := []api.Instance{{}, {Values: x.Values}, {Points: x.Points}, {Values: numbers("1 2"), Points: x.Points}, {Values: x.Values, Points: points("0 0 4 0 1 1")}}
	for goal := -3; goal < 6; goal++ {
		inside := goal >= 0 && goal < 3
		want := api.ErrRange
		if inside {
			want = api.OK
		}
		expectViolates(t, p, goal, x, goal == 0, want)
		if inside {
			want = api.ErrMismatch
		}
		for _, y := range wrong {
			expectViolates(t, p, goal, y, false, want)
		}
	}
	for _, goal := range []int{-1, 0, 1, 1 << 32, -1 << 63, 1<<63 - 1} {
		expectViolates(t, makeOf(t, figure("free, free")), goal, x, false, api.ErrRange)
	}
	expectViolates(t, p, 1<<32, x, false, api.ErrRange)
	expectViolates(t, api.Problem{}, 0, api.Instance{}, false, api.ErrRange)
}

// P26.5: the polynomials are those of the goal at the variables, also if the points are not those of the values, or the problem is not satisfied.
func TestViolatesOtherPoints(t *testing.T) {
	p := makeOf(t, figure("free, free, foot 0 1 1 | same 0 1, same 0 2, midpoint 2 0 1"))
	x := api.Instance{Values: numbers("4"), Points: points("0 0 0 0 2 0")}
	expectViolates(t, p, 0, x, true, api.OK)
	expectViolates(t, p, 1, x, true, api.OK)
	expectViolates(t, p, 2, x, false, api.OK)
	x = api.Instance{Values: numbers("0"), Points: points("0 0 4 0 0 0")}
	for goal := range 3 {
		expectViolates(t, p, goal, x, false, api.OK)
	}
}
