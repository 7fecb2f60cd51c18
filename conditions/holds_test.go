package conditions_test

import (
	"math"
	"slices"
	"strings"
	"testing"

	"geoprover/api"
	"geoprover/conditions"
	"geoprover/rational"
)

// all returns the points with the texts in s, between which stand a comma and a space; a text is two numbers and a space.
func all(s string) []api.Point {
	var l []api.Point
	for _, p := range strings.Split(s, ", ") {
		x, y, ok := strings.Cut(p, " ")
		if !ok {
			panic(s)
		}
		l = append(l, api.Point{X: number(x), Y: number(y)})
	}
	return l
}

// expectHolds fails unless Holds returns want.
func expectHolds(t *testing.T, c api.Condition, points []api.Point, want bool) {
	t.Helper()
	if got, e := conditions.Holds(c, points); got != want || e != api.OK {
		t.Errorf("Holds of %s for %v is %v, %d", write(c), points, got, e)
	}
}

// P23.3: each kind of conditions, where the Step plays no part.
func TestHolds(t *testing.T) {
	for _, c := range []struct {
		kind   int
		points string
		want   bool
	}{
		{api.CondDistinct, "1 2, 1 2", false},
		{api.CondDistinct, "1 2, 2 1", true},
		{api.CondDistinct, "1 2, 1 3", true},
		{api.CondDistinct, "1 2, 3 2", true},
		{api.CondDistinct, "1/3 0, 1/2 0", true},
		{api.CondDistinct, "-1/3 0, -1/3 0", false},
		{api.CondDistinct, "1 0, -1 0", true},
		{api.CondTriangle, "0 0, 1 0, 0 1", true},
		{api.CondTriangle, "0 0, 0 1, 1 0", true},
		{api.CondTriangle, "0 0, 1 2, 2 4", false},
		{api.CondTriangle, "2 4, 0 0, 1 2", false},
		{api.CondTriangle, "0 0, 1 2, 2 5", true},
		{api.CondTriangle, "1 2, 1 2, 3 5", false},
		{api.CondTriangle, "1 2, 3 5, 1 2", false},
		{api.CondTriangle, "3 5, 1 2, 1 2", false},
		{api.CondTriangle, "1 2, 1 2, 1 2", false},
		{api.CondTriangle, "1 1, 1 5, 1 -7", false},
		{api.CondTriangle, "1/3 1/2, 2/3 1, 1 3/2", false},
		{api.CondCrossing, "0 0, 1 1, 0 1, 1 0", true},
		{api.CondCrossing, "0 0, 1 1, 0 1, 1 2", false},
		{api.CondCrossing, "0 0, 1 1, 1 2, 0 1", false},
		{api.CondCrossing, "0 0, 1 1, 2 2, 3 3", false},
		{api.CondCrossing, "0 0, 0 0, 0 1, 1 0", false},
		{api.CondCrossing, "0 0, 1 1, 1 0, 1 0", false},
		{api.CondCrossing, "0 0, 1 0, 0 0, 0 1", true},
		{api.CondCrossing, "0 0, 1 0, 1 0, 2 0", false},
		{api.CondCrossing, "0 0, 1 0, 5 1/3, 6 1/3", false},
		{api.CondCrossing, "0 0, 1 0, 5 1/3, 6 1/2", true},
		{api.CondSlope, "0 0", true},
	} {
		points := all(c.points)
		for _, step := range []int{0, 2, 77, -1, math.MinInt, math.MaxInt} {
			args := []int{0, 1, 2, 3}[:len(points)]
			if c.kind == api.CondSlope {
				args = nil
			}
			expectHolds(t, condition(c.kind, step, args...), points, c.want)
			for i := range args { // the same points, twice, in the opposite order
				args[i] = 2*len(points) - 1 - args[i]
			}
			reversed := slices.Clone(points)
			slices.Reverse(reversed)
			expectHolds(t, condition(c.kind, step, args...), append(points, reversed...), c.want)
		}
	}
	expectHolds(t, condition(api.CondSlope, 0), nil, true)
	expectHolds(t, api.Condition{Kind: api.CondSlope, Args: []int{}}, []api.Point{}, true)
	expectHolds(t, condition(api.CondDistinct, 0, 1, 1), all("0 0, 1 1"), false)
	expectHolds(t, condition(api.CondTriangle, 0, 0, 2, 2), all("0 0, 1 1, 1 0"), false)
	expectHolds(t, condition(api.CondCrossing, 0, 0, 1, 0, 2), all("0 0, 1 1, 1 0"), true)
	expectHolds(t, condition(api.CondCrossing, 0, 0, 1, 1, 0), all("0 0, 1 1, 1 0"), false)
}

// P23.3: random points of a grid.
func TestHoldsRandom(t *testing.T) {
	r := newSource()
	count := map[int]map[bool]int{}
	for range 20 * rounds {
		var points []api.Point
		var x, y [4]int
		for i := range 4 {
			x[i], y[i] = r.Intn(4), r.Intn(4)
			points = append(points, api.Point{X: rational.Frac(x[i], 3), Y: rational.Frac(y[i], 3)})
		}
		a := []int{r.Intn(4), r.Intn(4), r.Intn(4), r.Intn(4)}
		cross := func(a, b, c, d int) int { return (x[b]-x[a])*(y[d]-y[c]) - (y[b]-y[a])*(x[d]-x[c]) }
		for kind, want := range map[int]bool{
			api.CondDistinct: x[a[0]] != x[a[1]] || y[a[0]] != y[a[1]],
			api.CondTriangle: cross(a[0], a[1], a[0], a[2]) != 0,
			api.CondCrossing: cross(a[0], a[1], a[2], a[3]) != 0,
		} {
			expectHolds(t, condition(kind, r.Intn(9), a[:kind+1]...), points, want)
			if count[kind] == nil {
				count[kind] = map[bool]int{}
			}
			count[kind][want]++
		}
	}
	for kind := api.CondDistinct; kind <= api.CondCrossing; kind++ {
		if min(count[kind][true], count[kind][false]) < rounds {
			t.Errorf("conditions of the kind %d: %v", kind, count[kind])
		}
	}
}

// expectWrong fails unless Holds, for so many points, and Text, for as many names, return the error want for c, and zero values.
func expectWrong(t *testing.T, c api.Condition, points int, want api.Errno) {
	t.Helper()
	if got, e := conditions.Holds(c, slices.Repeat(all("1 2"), points)); got || e != want {
		t.Errorf("Holds of %s for %d points is %v, %d, want the error %d", write(c), points, got, e, want)
	}
	if got, e := conditions.Text(c, slices.Repeat([]string{"A"}, points)); got != "" || e != want {
		t.Errorf("Text of %s for %d names is %q, %d, want the error %d", write(c), points, got, e, want)
	}
}

// arities returns the numbers of arguments of the kinds.
func arities() map[int]int {
	return map[int]int{api.CondDistinct: 2, api.CondTriangle: 3, api.CondCrossing: 4, api.CondSlope: 0}
}

// P23.3, P23.4: kinds that do not exist, whatever the arguments are.
func TestWrongKinds(t *testing.T) {
	for _, kind := range []int{0, -1, 5, 60, math.MinInt, math.MaxInt, 1<<32 + 1} {
		for _, args := range [][]int{nil, {0}, {0, 1}, {0, 1, 2}, {0, 1, 2, 3}, {-1, 99}, {0, 1, 2, 3, 4}} {
			for _, step := range []int{0, -1, 99} {
				expectWrong(t, condition(kind, step, args...), 9, api.ErrKind)
				expectWrong(t, condition(kind, step, args...), 0, api.ErrKind)
			}
		}
	}
	expectWrong(t, api.Condition{}, 0, api.ErrKind)
}

// P23.3, P23.4: too many and too few arguments, before arguments and steps that are out of range.
func TestWrongNumbers(t *testing.T) {
	for kind, arity := range arities() {
		for n := range 12 {
			if n == arity {
				continue
			}
			expectWrong(t, condition(kind, 0, make([]int, n)...), 9, api.ErrArg)
			expectWrong(t, condition(kind, 0, make([]int, n)...), 0, api.ErrArg)
			expectWrong(t, condition(kind, -1, slices.Repeat([]int{-1}, n)...), 3, api.ErrArg)
			expectWrong(t, condition(kind, 99, slices.Repeat([]int{99}, n)...), 3, api.ErrArg)
		}
	}
}

// P23.3, P23.4: arguments below 0 and behind the last point, whatever the step is.
func TestWrongArguments(t *testing.T) {
	for kind, arity := range arities() {
		for k := range arity {
			for _, arg := range []int{-1, 3, 4, math.MinInt, math.MaxInt} {
				for _, step := range []int{0, -1, 99} {
					args := make([]int, arity)
					args[k] = arg
					expectWrong(t, condition(kind, step, args...), 3, api.ErrRange)
				}
			}
			args := make([]int, arity)
			args[k] = 2
			if _, e := conditions.Holds(condition(kind, -5, args...), all("0 0, 1 1, 2 2")); e != api.OK {
				t.Errorf("the last point is out of range for the kind %d: %d", kind, e)
			}
			expectWrong(t, condition(kind, 0, args...), 2, api.ErrRange)
			expectWrong(t, condition(kind, 0, args...), 0, api.ErrRange)
		}
	}
}
