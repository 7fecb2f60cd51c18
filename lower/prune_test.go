package lower_test

import (
	"fmt"
	"math"
	"math/rand"
	"slices"
	"testing"

	"geoprover/api"
	"geoprover/lower"
)

// expectNeeds fails unless Needs returns these numbers.
func expectNeeds(t *testing.T, f api.Figure, points []int, want ...int) {
	t.Helper()
	if got := lower.Needs(f, points); !slices.Equal(got, want) {
		t.Fatalf("Needs of %v in %s is %v, want %v", points, show(f), got, want)
	}
}

// P20.4: the example of the chapter, and several points.
func TestNeeds(t *testing.T) {
	f := figureOf(t, "points A, B, C; D := foot(A, bisector(B, C));")
	expectNeeds(t, f, []int{4}, 1, 2, 3, 4)
	expectNeeds(t, f, []int{5}, 0, 1, 2, 3, 4, 5)
	expectNeeds(t, f, []int{3}, 1, 2, 3)
	for i := range 3 {
		expectNeeds(t, f, []int{i}, i)
	}
	expectNeeds(t, f, []int{3, 0}, 0, 1, 2, 3)
	expectNeeds(t, f, []int{2, 0, 2, 2, 0}, 0, 2)
	expectNeeds(t, f, []int{4, 3, 2, 1}, 1, 2, 3, 4)
	expectNeeds(t, f, []int{5, 0, 1, 2, 3, 4}, 0, 1, 2, 3, 4, 5)
	expectNeeds(t, f, nil)
	expectNeeds(t, f, []int{})
}

// P20.4: numbers that are not those of points.
func TestNeedsOfOtherNumbers(t *testing.T) {
	f := figureOf(t, "points A, B, C; D := foot(A, bisector(B, C));")
	expectNeeds(t, f, []int{-1})
	expectNeeds(t, f, []int{6, 7, 100, math.MaxInt, math.MinInt})
	expectNeeds(t, f, []int{6, 3, -1, 0, 40}, 0, 1, 2, 3)
	expectNeeds(t, api.Figure{}, []int{0, 1, -1})
}

// P20.4: a point that is needed over several others, and points in between that are not.
func TestNeedsOverSeveral(t *testing.T) {
	f := figure("free:A, free:B, free:C, apex 0 1, apex 1 2, apex 3 0, free:D, apex 5 5, apex 4 6", "")
	expectNeeds(t, f, []int{7}, 0, 1, 3, 5, 7)
	expectNeeds(t, f, []int{8}, 1, 2, 4, 6, 8)
	expectNeeds(t, f, []int{8, 5}, 0, 1, 2, 3, 4, 5, 6, 8)
	chain := "free"
	for i := range api.MaxPoints - 1 {
		chain += fmt.Sprintf(", apex %d %d", i, i)
	}
	var all []int
	for i := range api.MaxPoints {
		all = append(all, i)
	}
	expectNeeds(t, figure(chain, ""), []int{api.MaxPoints - 1}, all...)
	expectNeeds(t, figure(chain, ""), []int{20}, all[:21]...)
}

// needed returns the points that a point needs, and itself, by the definition of the chapter.
func needed(f api.Figure, point int, add func(i int)) {
	add(point)
	for _, a := range f.Steps[point].Args {
		needed(f, a, add)
	}
}

// randomPoints returns numbers, most of which are points of f.
func randomPoints(r *rand.Rand, f api.Figure) []int {
	var l []int
	for range r.Intn(4) {
		l = append(l, r.Intn(len(f.Steps)+2)-1)
	}
	return l
}

// P20.4: random figures.
func TestNeedsRandom(t *testing.T) {
	r := newSource()
	for range rounds {
		f := randomFigure(t, r, 10)
		points := randomPoints(r, f)
		var want []int
		for _, p := range points {
			if p >= 0 && p < len(f.Steps) {
				needed(f, p, func(i int) { want = append(want, i) })
			}
			slices.Sort(want)
			want = slices.Compact(want)
		}
		expectNeeds(t, f, points, want...)
	}
}

// expectPrune fails unless Prune returns the figure with this text.
func expectPrune(t *testing.T, f api.Figure, goal int, want string) {
	t.Helper()
	before := show(f)
	got, e := lower.Prune(f, goal)
	if show(got) != want || e != api.OK {
		t.Fatalf("Prune of %s for the goal %d is %s, %d, want %s", before, goal, show(got), e, want)
	}
	if show(f) != before {
		t.Fatalf("Prune changes %s to %s", before, show(f))
	}
}

// expectPruneError fails unless Prune returns ErrRange.
func expectPruneError(t *testing.T, f api.Figure, goal int) {
	t.Helper()
	if got, e := lower.Prune(f, goal); len(got.Steps) > 0 || len(got.Goals) > 0 || e != api.ErrRange {
		t.Fatalf("Prune of %s for the goal %d is %s, %d, want ErrRange", show(f), goal, show(got), e)
	}
}

// P20.4: steps that are needed keep their names, and have other numbers behind those that are not.
func TestPrune(t *testing.T) {
	f := figureOf(t, "points A, B, C; D := foot(A, bisector(B, C)); points E; M := divide(E, C, -2/3); prove same(B, C); prove collinear(D, A, B); prove ratio(M, B, E, C, 4/9); prove same(apex(E, E), C);")
	if got := show(f); got != "free:A, free:B, free:C, divide 1 2 1/2, turn 3 1 2, foot 0 3 4:D, free:E, divide 6 2 -2/3:M, apex 6 6 | same 1 2, collinear 5 0 1, ratio 7 1 6 2 4/9, same 8 2" {
		t.Fatalf("the figure is %s", got)
	}
	expectPrune(t, f, 0, "free:B, free:C | same 0 1")
	expectPrune(t, f, 1, "free:A, free:B, free:C, divide 1 2 1/2, turn 3 1 2, foot 0 3 4:D | collinear 5 0 1")
	expectPrune(t, f, 2, "free:B, free:C, free:E, divide 2 1 -2/3:M | ratio 3 0 2 1 4/9")
	expectPrune(t, f, 3, "free:C, free:E, apex 1 1 | same 2 0")
}

// P20.4: a goal that needs all points, and one with the same point everywhere.
func TestPruneBounds(t *testing.T) {
	f := figureOf(t, "points A, B; C := apex(A, B); prove angle(A, B, C, C, B, A); prove same(B, B);")
	expectPrune(t, f, 0, "free:A, free:B, apex 0 1:C | angle 1 0 1 2 1 2 1 0")
	expectPrune(t, f, 1, "free:B | same 0 0")
	f = figureOf(t, "points A, B; prove same(midpoint(A, B), midpoint(B, A));")
	expectPrune(t, f, 0, "free:A, free:B, divide 0 1 1/2, divide 1 0 1/2 | same 2 3")
}

// P20.4: goals that do not exist.
func TestPruneErrors(t *testing.T) {
	f := figureOf(t, "points A, B; prove same(A, B); prove same(B, A);")
	for _, goal := range []int{-1, 2, 3, 8, math.MinInt, math.MaxInt} {
		expectPruneError(t, f, goal)
	}
	for _, goal := range []int{-1, 0, 1} {
		expectPruneError(t, figureOf(t, "points A, B;"), goal)
		expectPruneError(t, api.Figure{}, goal)
	}
}

// P20.4: random figures, where each goal of the pruned figure is about the same points, with the same steps.
func TestPruneRandom(t *testing.T) {
	r := newSource()
	for range rounds {
		f := randomFigure(t, r, 12)
		for goal, g := range f.Goals {
			q, e := lower.Prune(f, goal)
			if e != api.OK || len(q.Goals) != 1 {
				t.Fatalf("Prune of %s for the goal %d returns %s, %d", show(f), goal, show(q), e)
			}
			kept := lower.Needs(f, g.Args)
			if len(q.Steps) != len(kept) {
				t.Fatalf("Prune of %s for the goal %d has other points: %s", show(f), goal, show(q))
			}
			old := func(points []int) []int { // the numbers that points of q have in f
				l := []int{}
				for _, p := range points {
					l = append(l, kept[p])
				}
				return l
			}
			back := api.Figure{Goals: []api.Fact{{Kind: q.Goals[0].Kind, Args: old(q.Goals[0].Args), Ratio: q.Goals[0].Ratio}}}
			want := api.Figure{Goals: []api.Fact{g}}
			for i, s := range q.Steps {
				s.Args = old(s.Args)
				back.Steps = append(back.Steps, s)
				want.Steps = append(want.Steps, f.Steps[kept[i]])
			}
			if show(back) != show(want) {
				t.Fatalf("Prune of %s for the goal %d is %s", show(f), goal, show(q))
			}
		}
	}
}
