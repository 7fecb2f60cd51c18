package lower_test

import (
	"strconv"
	"strings"
	"testing"

	"geoprover/api"
	"geoprover/lower"
)

// expectNames fails unless Names returns the names in want, which stand between commas, and Find finds each one at its first place.
func expectNames(t *testing.T, f api.Figure, want string) {
	t.Helper()
	names := lower.Names(f)
	if got := strings.Join(names, ", "); got != want || len(names) != len(f.Steps) {
		t.Fatalf("Names of %s is %q, want %q", show(f), got, want)
	}
	first := map[string]int{}
	for i, name := range names {
		if _, found := first[name]; !found {
			first[name] = i
		}
		expectFind(t, f, name, first[name])
	}
}

// expectFind fails unless Find returns want.
func expectFind(t *testing.T, f api.Figure, name string, want int) {
	t.Helper()
	if got := lower.Find(f, name); got != want {
		t.Fatalf("Find of %q in %s is %d, want %d", name, show(f), got, want)
	}
}

// P20.3: the example of the chapter.
func TestNames(t *testing.T) {
	f := figureOf(t, "points A, B, C; D := foot(A, bisector(B, C));")
	expectNames(t, f, "A, B, C, $3, $4, D")
	expectFind(t, f, "$4", 4)
	for _, name := range []string{"", "E", "a", "$", "$0", "$5", "$6", "$04", "$-1", "4", "$$3", "$3 ", "foot"} {
		expectFind(t, f, name, -1)
	}
}

// P20.3: the names of helpers, in a figure without names and in one without helpers.
func TestNamesOfHelpers(t *testing.T) {
	expectNames(t, api.Figure{}, "")
	expectFind(t, api.Figure{}, "", -1)
	expectFind(t, api.Figure{}, "$0", -1)
	expectNames(t, figure("free:X, free:Y", ""), "X, Y")
	f, want := api.Figure{}, []string{}
	for i := range 1200 { // also more than MaxPoints
		f.Steps = append(f.Steps, api.Step{Kind: api.StepFree})
		want = append(want, "$"+strconv.Itoa(i))
	}
	if got := strings.Join(lower.Names(f), " "); got != strings.Join(want, " ") {
		t.Errorf("the names are %s", got)
	}
	expectFind(t, f, "$1199", 1199)
	expectFind(t, f, "$1200", -1)
}

// P20.3: figures that are not valid.
func TestNamesOfOtherFigures(t *testing.T) {
	f := api.Figure{Steps: []api.Step{{Kind: 77, Point: "A", Args: []int{9}}, {}, {Point: "A"}, {Point: "$1"}, {Point: "on "}, {Point: "$5"}, {}, {Point: "$7"}}}
	expectNames(t, f, "A, $1, A, $1, on , $5, $6, $7")
	expectFind(t, f, "A", 0)
	expectFind(t, f, "$1", 1)
	expectFind(t, f, "", -1)
	f.Steps[0].Point = "$1" // the first number, whatever the name stands for
	expectFind(t, f, "$1", 0)
}

// P20.3: random figures.
func TestNamesRandom(t *testing.T) {
	r := newSource()
	for range rounds {
		f := randomFigure(t, r, 10)
		var want []string
		for i, s := range f.Steps {
			want = append(want, s.Point)
			if s.Point == "" {
				want[i] = "$" + strconv.Itoa(i)
			}
		}
		expectNames(t, f, strings.Join(want, ", "))
	}
}
