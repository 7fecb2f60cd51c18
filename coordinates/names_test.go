package coordinates_test

import (
	"math"
	"slices"
	"strconv"
	"testing"

	"geoprover/api"
	"geoprover/coordinates"
)

// P21.2: the example of Params and Names.
func TestNamesExample(t *testing.T) {
	f := figureOf(t, "points A, B, C; M := midpoint(B, C); P := foot(A, line(B, C));")
	x := frameOf(t, f)
	if l := coordinates.Params(x); !slices.Equal(l, []int{0, 1, 2}) {
		t.Errorf("Params returns %v", l)
	}
	if l := coordinates.Names(f, x); !slices.Equal(l, []string{"v0", "v1", "v2", "v3", "v4"}) {
		t.Errorf("Names returns %v", l)
	}
}

// frameWith returns a frame that has only variables of these kinds.
func frameWith(kinds ...int) api.Frame {
	var x api.Frame
	for i, kind := range kinds {
		x.Vars = append(x.Vars, api.Var{Kind: kind, Step: 7 - i, Number: 2 * i})
	}
	return x
}

// P21.2: Params of frames of any kind.
func TestParams(t *testing.T) {
	const p, d = api.VarParam, api.VarDependent
	for _, c := range []struct {
		x    api.Frame
		want []int
	}{
		{api.Frame{}, nil},
		{api.Frame{Vars: []api.Var{}}, nil},
		{frameOf(t, figure("free")), nil},
		{frameOf(t, figure("free, apex 0 0")), nil},
		{frameOf(t, figure("free, apex 0 0, free")), []int{2}},
		{frameOf(t, figure("free, oncircle 0 0, online 0 1, cut 0 0 0 0, oncircle 0 0")), []int{0, 3, 6}},
		{frameWith(p), []int{0}},
		{frameWith(d), nil},
		{frameWith(d, d, p), []int{2}},
		{frameWith(p, d, d, p, p, d), []int{0, 3, 4}},
		{frameWith(0, 3, -1, math.MaxInt, math.MinInt, 257, 1<<32+1), nil},
		{frameWith(0, p, 3, d, p, -1), []int{1, 4}},
	} {
		if got := coordinates.Params(c.x); !slices.Equal(got, c.want) {
			t.Errorf("Params of %s is %v, want %v", show(c.x), got, c.want)
		}
	}
}

// P21.2: frames with more variables than a figure can have.
func TestManyNames(t *testing.T) {
	for _, n := range []int{0, 1, 9, 10, 11, api.MaxVars, api.MaxVars + 1, 1001} {
		x := frameWith(slices.Repeat([]int{api.VarParam}, n)...)
		params, names := coordinates.Params(x), coordinates.Names(api.Figure{}, x)
		if len(params) != n || len(names) != n {
			t.Fatalf("%d parameters and %d names of %d variables", len(params), len(names), n)
		}
		for i := range n {
			if params[i] != i || names[i] != "v"+strconv.Itoa(i) {
				t.Errorf("the variable %d of %d is %d, %s", i, n, params[i], names[i])
			}
		}
	}
}

// P21.2: the figure plays no part for Names, nor do the kinds of the variables and the points.
func TestNames(t *testing.T) {
	x := frameWith(api.VarDependent, 0, api.VarParam, 77)
	x.Coords = make([]api.Coord, 9)
	for _, f := range []api.Figure{{}, figure("free"), figure("free, apex 0 0"), figure("none 7"), figure(many("free", 41))} {
		if l := coordinates.Names(f, x); !slices.Equal(l, []string{"v0", "v1", "v2", "v3"}) {
			t.Errorf("Names returns %v", l)
		}
		if l := coordinates.Names(f, api.Frame{}); len(l) > 0 {
			t.Errorf("Names of no variables returns %v", l)
		}
	}
}
